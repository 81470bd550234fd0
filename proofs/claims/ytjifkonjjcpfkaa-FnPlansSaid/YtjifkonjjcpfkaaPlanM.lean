/-
  Mathematics of plans: what goes round; sums of budgets.
-/
import Derived.Test.YtjifkonjjcpfkaaImplP9
import Derived.Test.YtjifkonjjcpfkaaDrawT9
import Derived.Test.YtjifkonjjcpfkaaRow
namespace Go.Proofs.Ytjifkonjjcpfkaa
open Go.RowKit Go.PlainAid
set_option linter.unusedVariables false

def sumF (f : Int × Int → Int) : List (Int × Int) → Int
  | [] => 0
  | p :: t => f p + sumF f t
theorem sumF_append (f : Int × Int → Int) : ∀ x y : List (Int × Int), sumF f (x ++ y) = sumF f x + sumF f y
  | [], y => by simp [sumF]
  | p :: t, y => by simp [sumF, sumF_append f t y, Int.add_assoc]
theorem sumF_snoc (f : Int × Int → Int) (x : List (Int × Int)) (p : Int × Int) : sumF f (x ++ [p]) = sumF f x + f p := by
  rw [sumF_append]; simp [sumF]
theorem sumF_add (f g : Int × Int → Int) : ∀ x : List (Int × Int), sumF (fun p => f p + g p) x = sumF f x + sumF g x
  | [] => rfl
  | p :: t => by simp only [sumF, sumF_add f g t]; omega
theorem sumF_congr (f g : Int × Int → Int) : ∀ x : List (Int × Int), (∀ p ∈ x, f p = g p) → sumF f x = sumF g x
  | [], _ => rfl
  | p :: t, h => by simp only [sumF]; rw [h p (by simp), sumF_congr f g t (fun q hq => h q (by simp [hq]))]
theorem sumF_bound (f : Int × Int → Int) (M : Int) : ∀ x : List (Int × Int), (∀ p ∈ x, 0 ≤ f p ∧ f p ≤ M) → 0 ≤ sumF f x ∧ sumF f x ≤ M * x.length
  | [], _ => by simp [sumF]
  | p :: t, h => by
    have h1 := h p (by simp)
    have h2 := sumF_bound f M t (fun q hq => h q (by simp [hq]))
    simp only [sumF, List.length_cons]
    rw [show ((t.length + 1 : Nat) : Int) = (t.length : Int) + 1 by omega, Int.mul_add]
    omega
def bud (part : Int) (p : Int × Int) : Int := if p.1 = part then p.2 else 0
theorem bud_in {part : Int} {p : Int × Int} (h : 1 ≤ p.2 ∧ p.2 ≤ 200) : 0 ≤ bud part p ∧ bud part p ≤ 200 := by
  unfold bud; split <;> omega
/-- what is reckoned is the sum -/
theorem timeF_sum (part : Int) : ∀ (l : List (Int × Int)) (acc : Int), (∀ p ∈ l, 1 ≤ p.2 ∧ p.2 ≤ 200) → 0 ≤ acc → acc + 200 * l.length ≤ 1000000 → timeF part l acc = acc + sumF (bud part) l
  | [], acc, _, _, _ => by simp [timeF, sumF]
  | p :: t, acc, h, h0, hb => by
    have hp := h p (by simp)
    have hl : ((p :: t).length : Int) = (t.length : Int) + 1 := by simp
    rw [hl] at hb
    have ht : ∀ q ∈ t, 1 ≤ q.2 ∧ q.2 ≤ 200 := fun q hq => h q (by simp [hq])
    simp only [timeF, sumF, bud]
    split
    · rw [show wrap64 (acc + p.2) = acc + p.2 by unfold wrap64; omega, timeF_sum part t _ ht (by omega) (by omega)]
      unfold bud
      omega
    · rw [timeF_sum part t _ ht h0 (by omega)]
      unfold bud
      omega
theorem plan_wins {l : List (Int × Int)} (h : PlanR l) : ∀ p ∈ l, (1 ≤ p.1 ∧ p.1 ≤ 4) ∧ (1 ≤ p.2 ∧ p.2 ≤ 200) := fun p hp => by
  obtain ⟨i, hi, rfl⟩ := List.mem_iff_getElem.1 hp
  exact h.2 i hi
theorem time_plan {l : List (Int × Int)} (h : PlanR l) (part : Int) : timeF part l 0 = sumF (bud part) l := by
  rw [timeF_sum part l 0 (fun p hp => (plan_wins h p hp).2) (by omega) (by have := h.1.2; omega)]
  omega
theorem sum_in {l : List (Int × Int)} (h : PlanR l) (part : Int) : 0 ≤ sumF (bud part) l ∧ sumF (bud part) l ≤ 2400 := by
  have h1 := sumF_bound (bud part) 200 l (fun p hp => bud_in (plan_wins h p hp).2)
  have := h.1.2
  omega
/-- all parts together have all the time -/
theorem all_time {l : List (Int × Int)} (h : PlanR l) : sumF (bud 1) l + sumF (bud 2) l + sumF (bud 3) l + sumF (bud 4) l = sumF (fun p => p.2) l := by
  rw [← sumF_add, ← sumF_add, ← sumF_add]
  apply sumF_congr
  intro p hp
  have := (plan_wins h p hp).1
  unfold bud
  by_cases h1 : p.1 = 1
  · simp [h1]
  · by_cases h2 : p.1 = 2
    · simp [h2]
    · by_cases h3 : p.1 = 3
      · simp [h3]
      · obtain h4 : p.1 = 4 := by omega
        simp [h4]
/-- the plan from one place on, once round -/
abbrev rot (l : List (Int × Int)) (r : Nat) : List (Int × Int) := l.drop r ++ l.take r
theorem rot_len {l : List (Int × Int)} {r : Nat} : (rot l r).length = l.length := by simp [rot]; omega
theorem rot_sum (f : Int × Int → Int) (l : List (Int × Int)) (r : Nat) : sumF f (rot l r) = sumF f l := by
  rw [sumF_append, Int.add_comm, ← sumF_append, List.take_append_drop]
theorem rot_at {l : List (Int × Int)} {r j : Nat} (hr : r < l.length) (hj : j < (rot l r).length) : (rot l r)[j] = l[(r + j) % l.length]'(Nat.mod_lt _ (by omega)) := by
  have hl : (rot l r).length = l.length := rot_len
  by_cases h : j < l.length - r
  · rw [List.getElem_append_left (by simp; omega), List.getElem_drop]
    congr 1
    rw [Nat.mod_eq_of_lt (by omega)]
  · rw [List.getElem_append_right (by simp; omega), List.getElem_take]
    congr 1
    simp
    have e : r + j = (r + j - l.length) + l.length := by omega
    rw [e, Nat.add_mod_right, Nat.mod_eq_of_lt (by omega)]
    omega
/-- the window at a place is the one of the plan that goes round -/
theorem win_rot {l : List (Int × Int)} {n : Int} {j : Nat} (h0 : 0 ≤ n) (hj : j < l.length) : winAt true l (n + j) = (rot l (n % l.length).toNat)[j]'(by rw [rot_len]; omega) := by
  have hr : (n % (l.length : Int)).toNat < l.length := by
    have := Int.emod_lt_of_pos n (show 0 < (l.length : Int) by omega)
    have := Int.emod_nonneg n (show (l.length : Int) ≠ 0 by omega)
    omega
  rw [rot_at hr (by rw [rot_len]; omega)]
  unfold winAt
  rw [if_pos ⟨rfl, by omega⟩]
  have e : ((n + j) % (l.length : Int)).toNat = ((n % (l.length : Int)).toNat + j) % l.length := by
    obtain ⟨k, rfl⟩ := Int.eq_ofNat_of_zero_le h0
    rw [← Int.natCast_add, ← Int.natCast_emod, ← Int.natCast_emod, Int.toNat_natCast, Int.toNat_natCast, Nat.mod_add_mod]
  rw [e, List.getD_eq_getElem?_getD, List.getElem?_eq_getElem (Nat.mod_lt _ (by omega))]
  rfl
theorem win_round {l : List (Int × Int)} {n : Int} {m : Nat} (hm : l.length = m) (h0 : 0 ≤ n) : winAt true l (n + m) = winAt true l n := by
  unfold winAt
  rw [if_pos ⟨rfl, by omega⟩, if_pos ⟨rfl, h0⟩, hm]
  congr 2
  rw [Int.add_emod_right]
theorem field0W (x y : Value) (w : World) : (Instr.field 35 (.agg #[x, y]) 0).run Try.prog w = .ok x w := by kernel_rfl

set_option maxRecDepth 100000 in
set_option maxHeartbeats 1000000 in
theorem drawSetup (a : Option Addr) (len cap : Nat) (w : World) (hcode : CodeOk w w.heap.size a len) :
    Calls Try.prog 10 #[.slice a len cap] w fun e w' => ∃ (q0 q1 q2 q3 q4 : Option Addr) (n0 n1 n2 n3 n4 c0 c1 c2 c3 c4 : Nat) (pl : List (Int × Int)), e = .returned (.agg #[.slice q0 n0 c0, .slice q1 n1 c1, .slice q2 n2 c2, .slice q3 n3 c3, .slice q4 n4 c4]) ∧ pl.length = n1 ∧ PlanR pl ∧ RdR w' q1 pl ∧ Below w.heap.size w w' := by
  have HB0 : Hid (Below w.heap.size w (w.alloc (.cells #[nilV, nilV, nilV, nilV, nilV] 30))) := (Below.refl _ _).alloc (Nat.le_refl _) _
  have HC : Hid (CodeOk (w.alloc (.cells #[nilV, nilV, nilV, nilV, nilV] 30)) w.heap.size a len) := code_below hcode HB0.out
  have HZ : Hid ((w.alloc (.cells #[nilV, nilV, nilV, nilV, nilV] 30)).heap[w.heap.size]? = some (.cells #[nilV, nilV, nilV, nilV, nilV] 30)) := heap_new w _
  clear hcode
  go_enter Try.func10, Try.ntmps10
  go_wp2_with fail
  refine (new23 w.heap.size a len cap _ HC.out (by simp)).mono ?_
  rintro e w1 ⟨C, rfl, hC, hcur, hcode, hb1⟩
  have hC' : w.heap.size < C := by have : (w.alloc (.cells #[nilV, nilV, nilV, nilV, nilV] 30)).heap.size = w.heap.size + 1 := by simp
                                   omega
  have HB1 : Hid (Below w.heap.size w w1) := bel_on (Nat.le_refl _) HB0.out hb1
  have HZ1 : Hid (w1.heap[w.heap.size]? = some (.cells #[nilV, nilV, nilV, nilV, nilV] 30)) := row_on HZ.out hb1
  clear hb1 HC HB0 HZ hC
  have s1 := HB1.out.size
  go_wp2_with fail
  refine (setupD C w.heap.size a len cap _ hcur (by omega) hcode).mono ?_
  rintro e w2 ⟨v0, v1, v2, v3, v4, n2, n4, rl, pl, x2, us, x4, rfl, hrl, hpl, hpw, hus, huo, o0, o1, o2, o3, o4, hD⟩
  have g1 := own_ge o1
  obtain ⟨q1, c1, rfl, hrd⟩ := o1.rd
  have HP : Hid (PlanR pl) := winsOf_plan hpw (by have := hrl.2.1; omega) hpl.1 (by omega)
  have HZ2 : Hid (w2.heap[w.heap.size]? = some (.cells #[nilV, nilV, nilV, nilV, nilV] 30)) := P.row_drawn HZ1.out hD.2.2 (by omega)
  have HO1 : Hid (w2.ownsRow w1.heap.size 35 2 (.slice q1 pl.length c1) pl.length (regsV pl)) := o1
  have HB2 : Hid (Below w.heap.size w w2) := by
    have hg := hD.2.2
    have hb := HB1.out
    exact ⟨hg.os.trans hb.os, hg.tape.trans hb.tape, hg.output.trans hb.output, Nat.le_trans hb.size hg.size, fun i hi => (hg.block i (by omega) (fun e => by cases e; omega)).trans (hb.block i hi)⟩
  obtain ⟨q0, c0, rfl⟩ := own_shapeW o0
  obtain ⟨q2, c2, rfl⟩ := own_shapeW o2
  obtain ⟨q3, c3, rfl⟩ := own_shapeW o3
  obtain ⟨q4, c4, rfl⟩ := own_shapeW o4
  obtain ⟨m1, hm1⟩ : ∃ m1, pl.length = m1 := ⟨_, rfl⟩
  obtain ⟨m0, hm0⟩ : ∃ m0, rl.length = m0 := ⟨_, rfl⟩
  obtain ⟨m3, hm3⟩ : ∃ m3, us.length = m3 := ⟨_, rfl⟩
  have HM1 : Hid (pl.length = m1) := hm1
  rw [hm1] at HO1 ⊢
  rw [hm0, hm3]
  have HR : Hid (RdR (((((w2.setCell ⟨w.heap.size, 0, none⟩ (.slice q0 m0 c0)).setCell ⟨w.heap.size, 1, none⟩ (.slice q1 m1 c1)).setCell ⟨w.heap.size, 2, none⟩ (.slice q2 n2 c2)).setCell ⟨w.heap.size, 3, none⟩ (.slice q3 m3 c3)).setCell ⟨w.heap.size, 4, none⟩ (.slice q4 n4 c4)) q1 pl) := by
    obtain ⟨a', cap', hv, _, _, hr⟩ := own_rdR (own_set5 HO1.out (own_far HO1.out HZ2.out (by decide)))
    cases hv
    exact hr
  have HBF : Hid (Below w.heap.size w (((((w2.setCell ⟨w.heap.size, 0, none⟩ (.slice q0 m0 c0)).setCell ⟨w.heap.size, 1, none⟩ (.slice q1 m1 c1)).setCell ⟨w.heap.size, 2, none⟩ (.slice q2 n2 c2)).setCell ⟨w.heap.size, 3, none⟩ (.slice q3 m3 c3)).setCell ⟨w.heap.size, 4, none⟩ (.slice q4 n4 c4))) :=
    ((((HB2.out.setCell (Nat.le_refl _) _).setCell (Nat.le_refl _) _).setCell (Nat.le_refl _) _).setCell (Nat.le_refl _) _).setCell (Nat.le_refl _) _
  have kz := P.box5_cells HZ2.out
  clear hD o0 o1 o2 o3 o4 hrd HB1 hrl hpl hpw hus huo HO1 HZ1 HZ2 HB2 hm1 hm0 hm3 g1
  go_wp2
  refine bodyPost_ret (v := .agg #[.slice q0 m0 c0, .slice q1 m1 c1, .slice q2 n2 c2, .slice q3 m3 c3, .slice q4 n4 c4]) (by simp [results, Try.results10, go_sem, kz]) rfl ⟨q0, q1, q2, q3, q4, m0, m1, n2, m3, n4, c0, c1, c2, c3, c4, pl, rfl, HM1.out, HP.out, HR.out, HBF.out⟩
end Go.Proofs.Ytjifkonjjcpfkaa
