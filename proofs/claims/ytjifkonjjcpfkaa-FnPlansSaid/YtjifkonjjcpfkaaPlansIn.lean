/-
  FnPlans' walk.
-/
import Derived.Test.YtjifkonjjcpfkaaPlanM
namespace Go.Proofs.Ytjifkonjjcpfkaa
open Go.RowKit Go.PlainAid
set_option linter.unusedVariables false

theorem win_keep {w W W' : World} {k : Nat} {x y : Value} (hb : Below W.heap.size W W') (hk : k < W.heap.size) (h : W.cell? ⟨k, 0, none⟩ = some x ∧ W.cell? ⟨k, 1, none⟩ = some y ∧ Below w.heap.size w W) : W'.cell? ⟨k, 0, none⟩ = some x ∧ W'.cell? ⟨k, 1, none⟩ = some y ∧ Below w.heap.size w W' :=
  ⟨(hb.cell (p := ⟨k, 0, none⟩) hk).trans h.1, (hb.cell (p := ⟨k, 1, none⟩) hk).trans h.2.1, bel_on (Nat.le_refl _) h.2.2 hb⟩

theorem ps_on {w W W' : World} {g off : Nat} {x y : Value} {l : List (Int × Int)} (h : W.cell? ⟨g, off, none⟩ = some x ∧ W.cell? ⟨g, off + 1, none⟩ = some y ∧ RdR W (some ⟨g, off, none⟩) l ∧ Below w.heap.size w W) (hb : Below W.heap.size W W') : W'.cell? ⟨g, off, none⟩ = some x ∧ W'.cell? ⟨g, off + 1, none⟩ = some y ∧ RdR W' (some ⟨g, off, none⟩) l ∧ Below w.heap.size w W' :=
  have hg : g < W.heap.size := World.block_lt_of_cell? W ⟨g, off, none⟩ h.1
  ⟨(hb.cell (p := ⟨g, off, none⟩) hg).trans h.1, (hb.cell (p := ⟨g, off + 1, none⟩) hg).trans h.2.1, h.2.2.1.on hb, bel_on (Nat.le_refl _) h.2.2.2 hb⟩
/-- the time of the first parts -/
def accP (l : List (Int × Int)) : Nat → Int
  | 0 => 0
  | k + 1 => accP l k + sumF (bud ((k : Int) + 1)) l
theorem accP_in {l : List (Int × Int)} (h : PlanR l) : ∀ k, k ≤ 4 → 0 ≤ accP l k ∧ accP l k ≤ 2400 * k
  | 0, _ => by simp [accP]
  | k + 1, hk => by
    have h1 := accP_in h k (by omega)
    have h2 := sum_in h ((k : Int) + 1)
    simp only [accP]
    omega

set_option maxRecDepth 100000 in
set_option maxHeartbeats 8000000 in
theorem plansIn (a0 : Option Addr) (len0 cap0 : Nat) (hb : len0 ≤ 1048576) (w0 : World) (hcode : CodeOk w0 w0.heap.size a0 len0) :
    Calls Try.prog 3 #[.slice a0 len0 cap0] w0 fun e w' => e = .returned (.bool true) ∧ Below w0.heap.size w0 w' := by
  have HC : Hid (CodeOk w0 w0.heap.size a0 len0) := hcode
  clear hcode
  go_enter Try.func3, Try.ntmps3
  go_wp2_with fail
  refine (big5 a0 len0 cap0 (by omega) _).mono ?_
  rintro e wx ⟨rfl, hwx⟩
  have hwy := hwx.symm
  subst hwy
  clear hwx
  rw [decide_eq_false (by omega)]
  go_wp2_with fail
  refine (drawSetup a0 len0 cap0 _ HC.out).mono ?_
  rintro e w1 ⟨q0, q1, q2, q3, q4, n0, n1, n2, n3, n4, c0, c1, c2, c3, c4, l, rfl, hl, hpl, hrd, hb1⟩
  have HB2 : Hid (Below w0.heap.size w0 (w1.alloc (.cells #[.slice q0 n0 c0, .slice q1 n1 c1, .slice q2 n2 c2, .slice q3 n3 c3, .slice q4 n4 c4] 30))) := hb1.alloc hb1.size _
  have HR2 : Hid (RdR (w1.alloc (.cells #[.slice q0 n0 c0, .slice q1 n1 c1, .slice q2 n2 c2, .slice q3 n3 c3, .slice q4 n4 c4] 30)) q1 l) := hrd.on ((Below.refl _ _).alloc (Nat.le_refl _) _)
  have HK2 : Hid ((w1.alloc (.cells #[.slice q0 n0 c0, .slice q1 n1 c1, .slice q2 n2 c2, .slice q3 n3 c3, .slice q4 n4 c4] 30)).heap[w1.heap.size]? = some (.cells #[.slice q0 n0 c0, .slice q1 n1 c1, .slice q2 n2 c2, .slice q3 n3 c3, .slice q4 n4 c4] 30)) := heap_new w1 _
  have HL : Hid (l.length = n1) := hl
  have HPL : Hid (PlanR l) := hpl
  have hn12 : 1 ≤ n1 ∧ n1 ≤ 12 := by rw [← hl]; exact hpl.1
  have s1 := hb1.size
  clear hb1 hrd hl hpl
  go_wp2_with fail
  refine (places7 w0.heap.size a0 len0 cap0 _ (code_below HC.out HB2.out) (by simp; omega)).mono ?_
  rintro e w3 ⟨gp, cp, p0, p1, p2, p3, rfl, hp0, hp1, hp2, hp3, hgp, cp0, cp1, cp2, cp3, _, hb3⟩
  have HB3 : Hid (Below w0.heap.size w0 w3) := bel_on (Nat.le_refl _) HB2.out hb3
  have HR3 : Hid (RdR w3 q1 l) := HR2.out.on hb3
  have HK3 := P.box5_cells (row_on HK2.out hb3)
  clear hb3 HB2 HR2 HK2 hp1 hp2 hp3 cp1 cp2 cp3 HC
  obtain ⟨r, hr⟩ : ∃ r, r = (p0 % (l.length : Int)).toNat := ⟨_, rfl⟩
  have HRr : Hid (r = (p0 % (l.length : Int)).toNat) := hr
  clear hr
  go_wp2
  clear HK3 cp0
  go_loopg [7, 8] n1 (fun gk sv iv wr => ∃ (j : Nat) (acc : Int), j + gk = n1 ∧ sv = .int .i64 acc ∧ iv = .int .i64 j ∧ Hid (acc = sumF (bud 1) ((rot l r).take j)) ∧ Hid (RdR wr q1 l) ∧ Hid (Below w0.heap.size w0 wr))
  case atStart => exact ⟨0, 0, by omega, rfl, rfl, rfl, HR3, HB3⟩
  case round =>
    clear HR3 HB3
    obtain ⟨j, acc, hj, rfl, rfl, HA, HR, HW⟩ := hrel
    by_cases hlt : j < n1
    · obtain ⟨x, hx⟩ : ∃ x : Int, p0 + (j : Int) = x := ⟨_, rfl⟩
      obtain ⟨y, hy⟩ : ∃ y : Int, x + (n1 : Int) = y := ⟨_, rfl⟩
      obtain ⟨f, s, hfs⟩ : ∃ f s, winAt true l x = (f, s) := ⟨_, _, rfl⟩
      have hjl : j < (rot l r).length := by rw [rot_len, HL.out]; exact hlt
      have hrj : (rot l r)[j] = (f, s) := by
        have h := win_rot (l := l) (n := p0) (j := j) (by omega) (by rw [HL.out]; exact hlt)
        have hr := HRr.out
        subst hr
        rw [← h, hx]
        exact hfs
      have hfs2 : winAt true l y = (f, s) := by
        rw [← hy, win_round HL.out (by omega)]
        exact hfs
      have hfI : 1 ≤ s ∧ s ≤ 200 := by
        have hm : (f, s) ∈ rot l r := by rw [← hrj]; exact List.getElem_mem hjl
        have hm2 : (f, s) ∈ l := by
          rcases List.mem_append.1 hm with h | h
          · exact List.mem_of_mem_drop h
          · exact List.mem_of_mem_take h
        exact (plan_wins HPL.out _ hm2).2
      have HT : Hid (sumF (bud 1) ((rot l r).take (j + 1)) = acc + bud 1 (f, s)) := by
        rw [List.take_succ_eq_append_getElem hjl, sumF_snoc, ← HA.out, hrj]
        rfl
      have hac : 0 ≤ acc ∧ acc ≤ 2400 := by
        have h := sumF_bound (bud 1) 200 ((rot l r).take j) (fun p hp => bud_in (plan_wins HPL.out p (by
          have := List.mem_of_mem_take hp
          rcases List.mem_append.1 this with h | h
          · exact List.mem_of_mem_drop h
          · exact List.mem_of_mem_take h)).2)
        rw [← HA.out] at h
        have : ((rot l r).take j).length = j := by rw [List.length_take]; omega
        rw [this] at h
        omega
      have HF1 : Hid (winAt true l x = (f, s)) := hfs
      have HF2 : Hid (winAt true l y = (f, s)) := hfs2
      clear hfs hfs2 hrj hjl HA
      have qx : IntKind.i64.wrap (p0 + (j : Int)) = x := (wrap_in (by omega) (by omega)).trans hx
      have qy : IntKind.i64.wrap (x + (n1 : Int)) = y := (wrap_in (by omega) (by omega)).trans hy
      go_wp2_with fail
      refine (winI q1 l n1 c1 x f s true HL.out (by omega) ⟨fun _ => HPL.out, fun _ => rfl⟩ HF1.out _ HR.out).mono ?_
      rintro e w4 ⟨rfl, hb4⟩
      have HB5 : Hid (Below w0.heap.size w0 (w4.alloc (.cells #[.int .i64 f, .int .i64 s] 35))) := (bel_on (Nat.le_refl _) HW.out hb4).alloc (bel_on (Nat.le_refl _) HW.out hb4).size _
      have HR5 : Hid (RdR (w4.alloc (.cells #[.int .i64 f, .int .i64 s] 35)) q1 l) := (HR.out.on hb4).on ((Below.refl _ _).alloc (Nat.le_refl _) _)
      have HK5 : Hid ((w4.alloc (.cells #[.int .i64 f, .int .i64 s] 35)).heap[w4.heap.size]? = some (.cells #[.int .i64 f, .int .i64 s] 35)) := heap_new w4 _
      clear hb4 HR HW
      obtain ⟨w5, hw5⟩ : ∃ w5, w5 = w4.alloc (.cells #[.int .i64 f, .int .i64 s] 35) := ⟨_, rfl⟩
      obtain ⟨k5, hk5⟩ : ∃ k5, w4.heap.size = k5 := ⟨_, rfl⟩
      go_wp2_with fail
      rw [hk5] at HK5
      rw [← hw5] at HB5 HR5 HK5 ⊢
      clear hw5 hk5
      have HS : Hid (w5.cell? ⟨k5, 0, none⟩ = some (.int .i64 f) ∧ w5.cell? ⟨k5, 1, none⟩ = some (.int .i64 s) ∧ Below w0.heap.size w0 w5) := ⟨(row2_cells HK5.out).1, (row2_cells HK5.out).2.1, HB5.out⟩
      have hk5 := row_lt HK5.out
      have HRd : Hid (RdR w5.drew q1 l) := HR5.out
      have HSd : Hid (w5.drew.cell? ⟨k5, 0, none⟩ = some (.int .i64 f) ∧ w5.drew.cell? ⟨k5, 1, none⟩ = some (.int .i64 s) ∧ Below w0.heap.size w0 w5.drew) := ⟨HS.out.1, HS.out.2.1, HS.out.2.2.drew⟩
      have HNb : Hid (n1 ≤ 1048576) := by show n1 ≤ 1048576; omega
      clear hx hy HS HB5 HR5 HK5
      go_region_held3 (fun w' => w'.cell? ⟨k5, 0, none⟩ = some (.int .i64 f) ∧ w'.cell? ⟨k5, 1, none⟩ = some (.int .i64 s) ∧ Below w0.heap.size w0 w') (first | (with_reducible exact HT6.out) | (with_reducible exact HSd.out)) (first | (go_at_call 12; refine (winI q1 l n1 c1 y f s true HL.out HNb.out ⟨(fun _ => HPL.out), (fun _ => rfl)⟩ HF2.out _ HRd.out).mono ?_; rintro e w6 ⟨rfl, hb6⟩; have HT6 : Hid (w6.cell? ⟨k5, 0, none⟩ = some (.int .i64 f) ∧ w6.cell? ⟨k5, 1, none⟩ = some (.int .i64 s) ∧ Below w0.heap.size w0 w6) := win_keep (W := w5.drew) hb6 hk5 HSd.out; have HR6 : Hid (RdR w6 q1 l) := HRd.out.on hb6))
      clear HSd hb6 HRd
      have k6 := HT6.out
      by_cases hf1 : f = 1
      · have HT2 : Hid (acc + s = sumF (bud 1) ((rot l r).take (j + 1))) := by
          show acc + s = _
          rw [HT.out]
          simp [bud, hf1]
        subst hf1
        have HB6 : Hid (Below w0.heap.size w0 w6) := HT6.out.2.2
        clear HT
        go_wp2
        clear k6 HT6
        go_roundg (gk - 1)
        case measure => omega
        case rel => exact ⟨j + 1, acc + s, by omega, rfl, by go_num, HT2, HR6, HB6⟩
      · have HT2 : Hid (acc = sumF (bud 1) ((rot l r).take (j + 1))) := by
          show acc = _
          rw [HT.out]
          simp [bud, hf1]
        have hf2 : (f == 1) = false := by simpa using hf1
        have HB6 : Hid (Below w0.heap.size w0 w6) := HT6.out.2.2
        clear HT
        go_wp2
        clear k6 HT6
        go_roundg (gk - 1)
        case measure => omega
        case rel => exact ⟨j + 1, acc, by omega, rfl, by go_num, HT2, HR6, HB6⟩
    · obtain rfl : j = n1 := by omega
      have HSum : Hid (acc = sumF (bud 1) l) := by
        have h := HA.out
        rw [List.take_of_length_le (by rw [rot_len, HL.out]; omega), rot_sum] at h
        exact h
      clear HA HRr
      go_wp2
      go_loopg [10, 11] 4 (fun gk av pv wr2 => ∃ (k : Nat), k + gk = 4 ∧ av = .int .i64 (accP l k) ∧ pv = .int .i64 ((k : Int) + 1) ∧ Hid (RdR wr2 q1 l) ∧ Hid (Below w0.heap.size w0 wr2))
      case atStart => exact ⟨0, by omega, rfl, rfl, HR, HW⟩
      case round =>
        clear HR HW
        obtain ⟨k, hk, rfl, rfl, HR, HW⟩ := hrel
        by_cases hlk : k < 4
        · have ha := accP_in HPL.out k (by omega)
          have HTm : Hid (timeF ((k : Int) + 1) l 0 = sumF (bud ((k : Int) + 1)) l) := time_plan HPL.out _
          have hs := sum_in HPL.out ((k : Int) + 1)
          obtain ⟨A, hA⟩ : ∃ A, accP l k = A := ⟨_, rfl⟩
          obtain ⟨S, hS⟩ : ∃ S, sumF (bud ((k : Int) + 1)) l = S := ⟨_, rfl⟩
          have HN : Hid (accP l (k + 1) = A + S) := by show accP l k + sumF (bud ((k : Int) + 1)) l = _; rw [hA, hS]
          rw [hA] at ha ⊢
          rw [hS] at hs HTm
          clear hA hS
          have hle : (k : Int) + 1 ≤ 4 := by omega
          go_wp2_with fail
          refine (timeI q1 l j c1 ((k : Int) + 1) HL.out (by omega) _ HR.out).mono ?_
          rintro e w7 ⟨rfl, hb7⟩
          have HR7 : Hid (RdR w7 q1 l) := HR.out.on hb7
          have HB7 : Hid (Below w0.heap.size w0 w7) := bel_on (Nat.le_refl _) HW.out hb7
          clear hb7 HR HW
          rw [HTm.out]
          go_wp2
          go_roundg (gk - 1)
          case measure => omega
          case rel => exact ⟨k + 1, by omega, by rw [HN.out], by go_num, HR7, HB7⟩
        · obtain rfl : k = 4 := by omega
          obtain ⟨A, hA⟩ : ∃ A, accP l 4 = A := ⟨_, rfl⟩
          have HAll : Hid (A = sumF (fun p => p.2) l) := by
            rw [← hA, ← all_time HPL.out]
            show 0 + _ + _ + _ + _ = _
            simp
          rw [hA]
          clear hA
          go_wp2
          go_loopg [12, 13] j (fun gk tv iv wr3 => ∃ (m : Nat) (tot : Int), m + gk = j ∧ tv = .int .i64 tot ∧ iv = .int .i64 m ∧ Hid (tot = sumF (fun p => p.2) (l.take m)) ∧ Hid (RdR wr3 q1 l) ∧ Hid (Below w0.heap.size w0 wr3))
          case atStart => exact ⟨0, 0, by omega, rfl, rfl, rfl, HR, HW⟩
          case round =>
            clear HR HW
            obtain ⟨m, tot, hm, rfl, rfl, HT, HR, HW⟩ := hrel
            obtain ⟨g, off, ha, hc⟩ := HR.out (by have := HL.out; omega)
            subst ha
            by_cases hlm : m < j
            · have hml : m < l.length := by have := HL.out; omega
              have c0 := hc m hml
              have htb : 0 ≤ tot ∧ tot ≤ 200 * m := by
                have h := sumF_bound (fun p => p.2) 200 (l.take m) (fun p hp => by have := (plan_wins HPL.out p (List.mem_of_mem_take hp)).2; exact ⟨by omega, this.2⟩)
                rw [← HT.out, List.length_take, Nat.min_eq_left (by omega)] at h
                exact h
              have hbu := (plan_wins HPL.out _ (List.getElem_mem hml)).2
              obtain ⟨bu, hbu2⟩ : ∃ bu, l[m].2 = bu := ⟨_, rfl⟩
              have HT2 : Hid (tot + bu = sumF (fun p => p.2) (l.take (m + 1))) := by
                show tot + bu = _
                rw [List.take_succ_eq_append_getElem hml, sumF_snoc, ← HT.out, ← hbu2]
              have c2 := c0.2
              rw [hbu2] at c2 hbu
              have i0 : (0 : Int) ≤ (m : Int) := by omega
              have i1 : (m : Int) < (j : Int) := by omega
              clear c0 hc hbu2 HT
              go_wp2
              go_roundg (gk - 1)
              case measure => omega
              case rel => exact ⟨m + 1, tot + bu, by omega, rfl, by go_num, HT2, HR, HW⟩
            · obtain rfl : m = j := by omega
              have HTot : Hid (tot = A) := by
                have h := HT.out
                rw [List.take_of_length_le (by have := HL.out; omega)] at h
                exact h.trans HAll.out.symm
              have e1 := HTot.out
              subst e1
              have hml : 0 < l.length := by have := HL.out; omega
              have c0 := hc 0 hml
              obtain ⟨f0, s0, hfs0⟩ : ∃ f0 s0, l[0] = (f0, s0) := ⟨_, _, rfl⟩
              rw [hfs0] at c0
              have HWn : Hid (winAt true l (-1) = (0, 0)) := by show winAt true l (-1) = (0, 0); unfold winAt; rw [if_neg (by omega)]
              have HW0 : Hid (winAt true l 0 = (f0, s0)) := by
                show winAt true l 0 = (f0, s0)
                unfold winAt
                rw [if_pos ⟨rfl, by omega⟩]
                simp [List.getD, List.getElem?_eq_getElem hml, hfs0]
              have HTm : Hid (timeF 1 l 0 = acc) := by rw [HSum.out]; exact time_plan HPL.out 1
              rw [Nat.zero_mul, Nat.add_zero] at c0
              have HS : Hid (wr.cell? ⟨g, off, none⟩ = some (.int .i64 f0) ∧ wr.cell? ⟨g, off + 1, none⟩ = some (.int .i64 s0) ∧ RdR wr (some ⟨g, off, none⟩) l ∧ Below w0.heap.size w0 wr) := ⟨c0.1, c0.2, HR.out, HW.out⟩
              have HNb : Hid (m ≤ 1048576) := by show m ≤ 1048576; omega
              have hfd := field0W
              have i0 : 0 < m := by omega
              clear hc hfs0 HT HTot HAll HSum c0 HR HW
              go_wp2
              have HSd : Hid (wr.drew.cell? ⟨g, off, none⟩ = some (.int .i64 f0) ∧ wr.drew.cell? ⟨g, off + 1, none⟩ = some (.int .i64 s0) ∧ RdR wr.drew (some ⟨g, off, none⟩) l ∧ Below w0.heap.size w0 wr.drew) := ⟨HS.out.1, HS.out.2.1, HS.out.2.2.1, HS.out.2.2.2.drew⟩
              clear HS
              go_region_held3 (fun w' => w'.cell? ⟨g, off, none⟩ = some (.int .i64 f0) ∧ w'.cell? ⟨g, off + 1, none⟩ = some (.int .i64 s0) ∧ RdR w' (some ⟨g, off, none⟩) l ∧ Below w0.heap.size w0 w')
                (first | (with_reducible exact T4.out) | (with_reducible exact T3.out) | (with_reducible exact T2.out) | (with_reducible exact T1.out) | (with_reducible exact HSd.out))
                (first
                  | (go_at_call 14; refine (planI (some ⟨g, off, none⟩) l m c1 true HL.out HNb.out ⟨(fun _ => HPL.out), (fun _ => rfl)⟩ _ HSd.out.2.2.1).mono ?_; rintro e v1 ⟨rfl, hb1⟩; have T1 : Hid (v1.cell? ⟨g, off, none⟩ = some (.int .i64 f0) ∧ v1.cell? ⟨g, off + 1, none⟩ = some (.int .i64 s0) ∧ RdR v1 (some ⟨g, off, none⟩) l ∧ Below w0.heap.size w0 v1) := ps_on HSd.out hb1)
                  | (go_at_call 13; refine (timeI (some ⟨g, off, none⟩) l m c1 1 HL.out HNb.out _ T1.out.2.2.1).mono ?_; rintro e v2 ⟨rfl, hb2⟩; (rw [HTm.out]); have T2 : Hid (v2.cell? ⟨g, off, none⟩ = some (.int .i64 f0) ∧ v2.cell? ⟨g, off + 1, none⟩ = some (.int .i64 s0) ∧ RdR v2 (some ⟨g, off, none⟩) l ∧ Below w0.heap.size w0 v2) := ps_on T1.out hb2)
                  | (go_at_call 12; (fail_if_success (have hq := T3)); refine (winI (some ⟨g, off, none⟩) l m c1 (-1) 0 0 true HL.out HNb.out ⟨(fun _ => HPL.out), (fun _ => rfl)⟩ HWn.out _ T2.out.2.2.1).mono ?_; rintro e v3 ⟨rfl, hb3⟩; have T3 : Hid (v3.cell? ⟨g, off, none⟩ = some (.int .i64 f0) ∧ v3.cell? ⟨g, off + 1, none⟩ = some (.int .i64 s0) ∧ RdR v3 (some ⟨g, off, none⟩) l ∧ Below w0.heap.size w0 v3) := ps_on T2.out hb3)
                  | (go_at_call 12; refine (winI (some ⟨g, off, none⟩) l m c1 0 f0 s0 true HL.out HNb.out ⟨(fun _ => HPL.out), (fun _ => rfl)⟩ HW0.out _ T3.out.2.2.1).mono ?_; rintro e v4 ⟨rfl, hb4⟩; have T4 : Hid (v4.cell? ⟨g, off, none⟩ = some (.int .i64 f0) ∧ v4.cell? ⟨g, off + 1, none⟩ = some (.int .i64 s0) ∧ RdR v4 (some ⟨g, off, none⟩) l ∧ Below w0.heap.size w0 v4) := ps_on T3.out hb4))
              go_wp2
              go_ret
              exact ⟨rfl, T4.out.2.2.2⟩
end Go.Proofs.Ytjifkonjjcpfkaa
