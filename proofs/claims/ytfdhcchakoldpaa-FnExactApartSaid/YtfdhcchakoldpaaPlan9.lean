/-
  Plans: which are right; PlanOk, TimeOf and WindowAt of the specification.
-/
import Derived.Test.YtfdhcchakoldpaaOwnWin
namespace Go.Proofs.Ytfdhcchakoldpaa
open Go.RowKit Go.PlainAid
set_option linter.unusedVariables false

/-- a window that is right -/
def isWin (p : Int × Int) : Prop := (1 ≤ p.1 ∧ p.1 ≤ 4) ∧ (1 ≤ p.2 ∧ p.2 ≤ 200)
/-- a plan that is right -/
def PlanR (rl : List (Int × Int)) : Prop := (1 ≤ rl.length ∧ rl.length ≤ 12) ∧ ∀ i (h : i < rl.length), isWin rl[i]
def AllP (rl : List (Int × Int)) (j : Nat) : Prop := ∀ i (h : i < rl.length), i < j → isWin rl[i]
theorem allP_zero (rl : List (Int × Int)) : AllP rl 0 := fun i _ h => by omega
theorem allP_succ {rl : List (Int × Int)} {j : Nat} (h : AllP rl j) (hj : j < rl.length) (hr : (1 ≤ rl[j].1 ∧ rl[j].1 ≤ 4) ∧ (1 ≤ rl[j].2 ∧ rl[j].2 ≤ 200)) : AllP rl (j + 1) := fun i hi hlt => by
  rcases Nat.lt_or_ge i j with h' | h'
  · exact h i hi h'
  · obtain rfl : i = j := by omega
    exact hr
theorem plan_bool (rl : List (Int × Int)) : ∃ b : Bool, b = true ↔ PlanR rl := by
  by_cases h : PlanR rl
  · exact ⟨true, ⟨fun _ => h, fun _ => rfl⟩⟩
  · exact ⟨false, ⟨fun h => (by cases h), fun h' => absurd h' h⟩⟩
theorem plan_no {rl : List (Int × Int)} {b : Bool} (hb : b = true ↔ PlanR rl) (h : ¬ PlanR rl) : b = false := by
  cases b
  · rfl
  · exact absurd (hb.1 rfl) h
theorem not_plan {rl : List (Int × Int)} {b : Bool} (hb : b = true ↔ PlanR rl) (j : Nat) (hj : j < rl.length) (h : ¬ ((1 ≤ rl[j].1 ∧ rl[j].1 ≤ 4) ∧ (1 ≤ rl[j].2 ∧ rl[j].2 ≤ 200))) : b = false := plan_no hb (fun hp => h (hp.2 j hj))
theorem not_size {rl : List (Int × Int)} {b : Bool} (hb : b = true ↔ PlanR rl) (h : ¬ (1 ≤ rl.length ∧ rl.length ≤ 12)) : b = false := plan_no hb (fun hp => h hp.1)

set_option maxRecDepth 100000 in
set_option maxHeartbeats 2000000 in
theorem planS (a : Option Addr) (rl : List (Int × Int)) (n cap : Nat) (b : Bool) (hl : rl.length = n) (hn : n ≤ 9223372036854775807) (hb : b = true ↔ PlanR rl) (w : World) (hr : RdR w a rl) :
    Calls Try.prog 34 #[.slice a n cap] w fun e w' => e = .returned (.bool b) ∧ w' = w := by
  have HB : Hid (b = true ↔ PlanR rl) := hb
  have HL : Hid (rl.length = n) := hl
  clear hb hl
  by_cases hp : 0 < n
  · obtain ⟨g, off, rfl, hc⟩ := hr (by have := HL.out; omega)
    have HC : Hid (∀ j (h : j < rl.length), w.cell? ⟨g, off + j * 2, none⟩ = some (.int .i64 rl[j].1) ∧ w.cell? ⟨g, off + j * 2 + 1, none⟩ = some (.int .i64 rl[j].2)) := hc
    clear hr hc
    go_enter Try.func34, Try.ntmps34
    go_wp2
    go_loopg [3] n (fun gk i wr => ∃ j : Nat, j + gk = n ∧ i = .int .i64 j ∧ Hid (AllP rl j) ∧ wr = w)
    case atStart => exact ⟨0, by omega, rfl, allP_zero rl, rfl⟩
    case round =>
      obtain ⟨j, hj, rfl, HI, rfl⟩ := hrel
      by_cases hlt : j < n
      · have hjl : j < rl.length := by have := HL.out; omega
        obtain ⟨c1, c2⟩ := HC.out j hjl
        obtain ⟨f, hf⟩ : ∃ f, rl[j].1 = f := ⟨_, rfl⟩
        obtain ⟨s, hs⟩ : ∃ s, rl[j].2 = s := ⟨_, rfl⟩
        rw [hf] at c1
        rw [hs] at c2
        have HF : Hid (rl[j].1 = f ∧ rl[j].2 = s) := ⟨hf, hs⟩
        clear hf hs
        by_cases hf : 1 ≤ f ∧ f ≤ 4
        · have hd1 : decide ((1 : Int) ≤ f ∧ f ≤ 4) = true := decide_eq_true hf
          go_wp2_with fail
          refine (inS 1 4 f true hd1 _).mono ?_
          rintro e w1 ⟨rfl, rfl⟩
          clear hd1
          by_cases hs : 1 ≤ s ∧ s ≤ 200
          · have hd2 : decide ((1 : Int) ≤ s ∧ s ≤ 200) = true := decide_eq_true hs
            have HI' : Hid (AllP rl (j + 1)) := allP_succ HI.out hjl (by rw [HF.out.1, HF.out.2]; exact ⟨hf, hs⟩)
            clear hf hs HI
            go_wp2_with fail
            refine (inS 1 200 s true hd2 _).mono ?_
            rintro e w2 ⟨rfl, rfl⟩
            clear hd2
            go_wp2
            go_roundg (gk - 1)
            case measure => omega
            case rel => exact ⟨j + 1, by omega, by go_num, HI', rfl⟩
          · have hd2 : decide ((1 : Int) ≤ s ∧ s ≤ 200) = false := decide_eq_false hs
            have HE : Hid (b = false) := not_plan HB.out j hjl (by rw [HF.out.1, HF.out.2]; exact fun h => hs h.2)
            clear hf hs HI
            go_wp2_with fail
            refine (inS 1 200 s false hd2 _).mono ?_
            rintro e w2 ⟨rfl, rfl⟩
            clear hd2
            go_wp2
            go_ret
            exact ⟨by rw [HE.out]; rfl, rfl⟩
        · have hd1 : decide ((1 : Int) ≤ f ∧ f ≤ 4) = false := decide_eq_false hf
          have HE : Hid (b = false) := not_plan HB.out j hjl (by rw [HF.out.1, HF.out.2]; exact fun h => hf h.1)
          clear hf HI
          go_wp2_with fail
          refine (inS 1 4 f false hd1 _).mono ?_
          rintro e w1 ⟨rfl, rfl⟩
          clear hd1
          go_wp2
          go_ret
          exact ⟨by rw [HE.out]; rfl, rfl⟩
      · by_cases hs : n ≤ 12
        · have HE : Hid (b = true) := HB.out.2 ⟨by have := HL.out; omega, fun i h => HI.out i h (by have := HL.out; omega)⟩
          go_wp2_with fail
          refine (inS 1 12 (n : Int) true (decide_eq_true ⟨by omega, by omega⟩) _).mono ?_
          rintro e w1 ⟨rfl, rfl⟩
          go_wp2
          go_ret
          exact ⟨by rw [HE.out]; rfl, rfl⟩
        · have HE : Hid (b = false) := not_size HB.out (by have := HL.out; omega)
          go_wp2_with fail
          refine (inS 1 12 (n : Int) false (decide_eq_false (fun h => by omega)) _).mono ?_
          rintro e w1 ⟨rfl, rfl⟩
          go_wp2
          go_ret
          exact ⟨by rw [HE.out]; rfl, rfl⟩
  · obtain rfl : n = 0 := by omega
    have HE : Hid (b = false) := not_size HB.out (by have := HL.out; omega)
    clear hr
    go_enter Try.func34, Try.ntmps34
    go_wp2
    go_rounds 1
    go_ret
    exact ⟨by rw [HE.out]; rfl, rfl⟩

/-- the sum of the budgets of a part's windows, as it is reckoned -/
def timeF (part : Int) : List (Int × Int) → Int → Int
  | [], acc => acc
  | p :: t, acc => timeF part t (if p.1 = part then wrap64 (acc + p.2) else acc)
theorem timeF_snoc (part : Int) (p : Int × Int) : ∀ (l : List (Int × Int)) (acc : Int), timeF part (l ++ [p]) acc = if p.1 = part then wrap64 (timeF part l acc + p.2) else timeF part l acc
  | [], acc => rfl
  | x :: t, acc => timeF_snoc part p t _

/-- the window at a place -/
def winAt (b : Bool) (l : List (Int × Int)) (n : Int) : Int × Int := if b = true ∧ 0 ≤ n then l.getD (n % l.length).toNat (0, 0) else (0, 0)
set_option maxRecDepth 100000 in
set_option maxHeartbeats 1000000 in
theorem winS (a : Option Addr) (l : List (Int × Int)) (n cap : Nat) (x f s : Int) (b : Bool) (hl : l.length = n) (hn : n ≤ 1048576) (hb : b = true ↔ PlanR l) (hw : winAt b l x = (f, s)) (w : World) (hr : RdR w a l) :
    Calls Try.prog 10 #[.slice a n cap, .int .i64 x] w fun e w' => e = .returned (.agg #[.int .i64 f, .int .i64 s]) ∧ Below w.heap.size w w' := by
  have HL : Hid (l.length = n) := hl
  have HPB : Hid (b = true ↔ PlanR l) := hb
  have HWA : Hid (winAt b l x = (f, s)) := hw
  have HR : Hid (RdR w a l) := hr
  have HB : Hid (Below w.heap.size w (w.alloc (.cells #[.int .i64 0, .int .i64 0] 43))) := (Below.refl _ _).alloc (Nat.le_refl _) _
  clear hl hb hw hr
  go_enter Try.func10, Try.ntmps10
  go_wp2_with fail
  refine (planS a l n cap b HL.out (by omega) HPB.out _ (HR.out.on HB.out)).mono ?_
  rintro e wx ⟨rfl, hwx⟩
  have hwy := hwx.symm
  subst hwy
  clear hwx
  cases b with
  | false =>
    obtain ⟨rfl, rfl⟩ : f = 0 ∧ s = 0 := by have := HWA.out; simp [winAt] at this; exact ⟨this.1.symm, this.2.symm⟩
    go_wp2
    refine bodyPost_ret (v := .agg #[.int .i64 0, .int .i64 0]) (by simp [results, Try.results10, go_sem]) rfl ⟨rfl, HB.out⟩
  | true =>
    by_cases h0 : x < 0
    · obtain ⟨rfl, rfl⟩ : f = 0 ∧ s = 0 := by have := HWA.out; rw [winAt, if_neg (by omega)] at this; cases this; exact ⟨rfl, rfl⟩
      clear HPB
      go_wp2
      refine bodyPost_ret (v := .agg #[.int .i64 0, .int .i64 0]) (by simp [results, Try.results10, go_sem]) rfl ⟨rfl, HB.out⟩
    · have hpl := HPB.out.1 rfl
      have hn1 : 1 ≤ n := by have := hpl.1; have := HL.out; omega
      clear HPB hpl
      obtain ⟨k, hk⟩ : ∃ k : Nat, x % (n : Int) = (k : Int) := ⟨(x % (n : Int)).toNat, by have := Int.emod_nonneg x (show (n : Int) ≠ 0 by omega); omega⟩
      have hk2 : x.tmod (n : Int) = (k : Int) := by rw [Int.tmod_eq_emod_of_nonneg (by omega)]; exact hk
      have hkn : k < n := by have := Int.emod_lt_of_pos x (show 0 < (n : Int) by omega); omega
      obtain ⟨g, off, ha, hc⟩ := HR.out (by have := HL.out; omega)
      subst ha
      have hkl : k < l.length := by have := HL.out; omega
      have c0 := hc k hkl
      have hgl : g < w.heap.size := World.block_lt_of_cell? w ⟨g, off + k * 2, none⟩ c0.1
      have hfs : l[k] = (f, s) := by
        have := HWA.out
        rw [winAt, if_pos ⟨rfl, by omega⟩, HL.out, hk] at this
        simpa [List.getD, List.getElem?_eq_getElem hkl] using this
      rw [hfs] at c0
      have c1 := (HB.out.cell (p := ⟨g, off + k * 2, none⟩) hgl).trans c0.1
      have c2 := (HB.out.cell (p := ⟨g, off + k * 2 + 1, none⟩) hgl).trans c0.2
      have i0 : (0 : Int) ≤ (k : Int) := by omega
      have i1 : (k : Int) < (n : Int) := by omega
      have hn0 : ¬ (n : Int) = 0 := by omega
      clear c0 hc hfs HWA HR
      go_wp2
      refine bodyPost_ret (v := .agg #[.int .i64 f, .int .i64 s]) (by simp [results, Try.results10, go_sem]) rfl ⟨rfl, ?_⟩
      first
        | exact HB.out
        | exact (Below.refl _ _).alloc (Nat.le_refl _) _
end Go.Proofs.Ytfdhcchakoldpaa
