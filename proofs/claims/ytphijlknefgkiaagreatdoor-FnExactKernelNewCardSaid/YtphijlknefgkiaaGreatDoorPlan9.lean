/-
  Plans: which are right; PlanOk, TimeOf and WindowAt of the specification.
-/
import Derived.Test.YtphijlknefgkiaaGreatDoorOwnWin
namespace Go.Proofs.YtphijlknefgkiaaGreatDoor
open Go.RowKit Go.PlainAid
set_option linter.unusedVariables false

/-- a window that is right -/
def isWin (p : Int × Int) : Prop := (1 ≤ p.1 ∧ p.1 ≤ 4) ∧ (1 ≤ p.2 ∧ p.2 ≤ 200)
/-- a plan that is right -/
def PlanR (rl : List (Int × Int)) : Prop := (1 ≤ rl.length ∧ rl.length ≤ 12) ∧ ∀ i (h : i < rl.length), isWin rl[i]
def AllP (rl : List (Int × Int)) (j : Nat) : Prop := ∀ i (h : i < rl.length), i < j → isWin rl[i]
theorem allP_zero (rl : List (Int × Int)) : AllP rl 0 := fun i _ h => by omega
theorem allP_succ {rl : List (Int × Int)} {j : Nat} (h : AllP rl j) (hj : j < rl.length) (hr : (1 ≤ rl[j].1 ∧ rl[j].1 ≤ 4) ∧ (1 ≤ rl[j].2 ∧ rl[j].2 ≤ 200)) : AllP rl (j + 1) := fun i hi hlt => by
  rcases Nat.lt_or_ge i j with h' | h'
  · exact h i hi h'
  · obtain rfl : i = j := by omega
    exact hr
theorem plan_bool (rl : List (Int × Int)) : ∃ b : Bool, b = true ↔ PlanR rl := by
  by_cases h : PlanR rl
  · exact ⟨true, ⟨fun _ => h, fun _ => rfl⟩⟩
  · exact ⟨false, ⟨fun h => (by cases h), fun h' => absurd h' h⟩⟩
theorem plan_no {rl : List (Int × Int)} {b : Bool} (hb : b = true ↔ PlanR rl) (h : ¬ PlanR rl) : b = false := by
  cases b
  · rfl
  · exact absurd (hb.1 rfl) h
theorem not_plan {rl : List (Int × Int)} {b : Bool} (hb : b = true ↔ PlanR rl) (j : Nat) (hj : j < rl.length) (h : ¬ ((1 ≤ rl[j].1 ∧ rl[j].1 ≤ 4) ∧ (1 ≤ rl[j].2 ∧ rl[j].2 ≤ 200))) : b = false := plan_no hb (fun hp => h (hp.2 j hj))
theorem not_size {rl : List (Int × Int)} {b : Bool} (hb : b = true ↔ PlanR rl) (h : ¬ (1 ≤ rl.length ∧ rl.length ≤ 12)) : b = false := plan_no hb (fun hp => h hp.1)

set_option maxRecDepth 100000 in
set_option maxHeartbeats 2000000 in
theorem planS (a : Option Addr) (rl : List (Int × Int)) (n cap : Nat) (b : Bool) (hl : rl.length = n) (hn : n ≤ 9223372036854775807) (hb : b = true ↔ PlanR rl) (w : World) (hr : RdR w a rl) :
    Calls Tryz.prog 56 #[.slice a n cap] w fun e w' => e = .returned (.bool b) ∧ w' = w := by
  have HB : Hid (b = true ↔ PlanR rl) := hb
  have HL : Hid (rl.length = n) := hl
  clear hb hl
  by_cases hp : 0 < n
  · obtain ⟨g, off, rfl, hc⟩ := hr (by have := HL.out; omega)
    have HC : Hid (∀ j (h : j < rl.length), w.cell? ⟨g, off + j * 2, none⟩ = some (.int .i64 rl[j].1) ∧ w.cell? ⟨g, off + j * 2 + 1, none⟩ = some (.int .i64 rl[j].2)) := hc
    clear hr hc
    go_enter Tryz.func56, Tryz.ntmps56
    go_wp2
    go_loopg [3] n (fun gk i wr => ∃ j : Nat, j + gk = n ∧ i = .int .i64 j ∧ Hid (AllP rl j) ∧ wr = w)
    case atStart => exact ⟨0, by omega, rfl, allP_zero rl, rfl⟩
    case round =>
      obtain ⟨j, hj, rfl, HI, rfl⟩ := hrel
      by_cases hlt : j < n
      · have hjl : j < rl.length := by have := HL.out; omega
        obtain ⟨c1, c2⟩ := HC.out j hjl
        obtain ⟨f, hf⟩ : ∃ f, rl[j].1 = f := ⟨_, rfl⟩
        obtain ⟨s, hs⟩ : ∃ s, rl[j].2 = s := ⟨_, rfl⟩
        rw [hf] at c1
        rw [hs] at c2
        have HF : Hid (rl[j].1 = f ∧ rl[j].2 = s) := ⟨hf, hs⟩
        clear hf hs
        by_cases hf : 1 ≤ f ∧ f ≤ 4
        · have hd1 : decide ((1 : Int) ≤ f ∧ f ≤ 4) = true := decide_eq_true hf
          go_wp2_with fail
          refine (inS 1 4 f true hd1 _).mono ?_
          rintro e w1 ⟨rfl, rfl⟩
          clear hd1
          by_cases hs : 1 ≤ s ∧ s ≤ 200
          · have hd2 : decide ((1 : Int) ≤ s ∧ s ≤ 200) = true := decide_eq_true hs
            have HI' : Hid (AllP rl (j + 1)) := allP_succ HI.out hjl (by rw [HF.out.1, HF.out.2]; exact ⟨hf, hs⟩)
            clear hf hs HI
            go_wp2_with fail
            refine (inS 1 200 s true hd2 _).mono ?_
            rintro e w2 ⟨rfl, rfl⟩
            clear hd2
            go_wp2
            go_roundg (gk - 1)
            case measure => omega
            case rel => exact ⟨j + 1, by omega, by go_num, HI', rfl⟩
          · have hd2 : decide ((1 : Int) ≤ s ∧ s ≤ 200) = false := decide_eq_false hs
            have HE : Hid (b = false) := not_plan HB.out j hjl (by rw [HF.out.1, HF.out.2]; exact fun h => hs h.2)
            clear hf hs HI
            go_wp2_with fail
            refine (inS 1 200 s false hd2 _).mono ?_
            rintro e w2 ⟨rfl, rfl⟩
            clear hd2
            go_wp2
            go_ret
            exact ⟨by rw [HE.out]; rfl, rfl⟩
        · have hd1 : decide ((1 : Int) ≤ f ∧ f ≤ 4) = false := decide_eq_false hf
          have HE : Hid (b = false) := not_plan HB.out j hjl (by rw [HF.out.1, HF.out.2]; exact fun h => hf h.1)
          clear hf HI
          go_wp2_with fail
          refine (inS 1 4 f false hd1 _).mono ?_
          rintro e w1 ⟨rfl, rfl⟩
          clear hd1
          go_wp2
          go_ret
          exact ⟨by rw [HE.out]; rfl, rfl⟩
      · by_cases hs : n ≤ 12
        · have HE : Hid (b = true) := HB.out.2 ⟨by have := HL.out; omega, fun i h => HI.out i h (by have := HL.out; omega)⟩
          go_wp2_with fail
          refine (inS 1 12 (n : Int) true (decide_eq_true ⟨by omega, by omega⟩) _).mono ?_
          rintro e w1 ⟨rfl, rfl⟩
          go_wp2
          go_ret
          exact ⟨by rw [HE.out]; rfl, rfl⟩
        · have HE : Hid (b = false) := not_size HB.out (by have := HL.out; omega)
          go_wp2_with fail
          refine (inS 1 12 (n : Int) false (decide_eq_false (fun h => by omega)) _).mono ?_
          rintro e w1 ⟨rfl, rfl⟩
          go_wp2
          go_ret
          exact ⟨by rw [HE.out]; rfl, rfl⟩
  · obtain rfl : n = 0 := by omega
    have HE : Hid (b = false) := not_size HB.out (by have := HL.out; omega)
    clear hr
    go_enter Tryz.func56, Tryz.ntmps56
    go_wp2
    go_rounds 1
    go_ret
    exact ⟨by rw [HE.out]; rfl, rfl⟩

/-- the sum of the budgets of a part's windows, as it is reckoned -/
def timeF (part : Int) : List (Int × Int) → Int → Int
  | [], acc => acc
  | p :: t, acc => timeF part t (if p.1 = part then wrap64 (acc + p.2) else acc)
theorem timeF_snoc (part : Int) (p : Int × Int) : ∀ (l : List (Int × Int)) (acc : Int), timeF part (l ++ [p]) acc = if p.1 = part then wrap64 (timeF part l acc + p.2) else timeF part l acc
  | [], acc => rfl
  | x :: t, acc => timeF_snoc part p t _

/-- the window at a place -/
def winAt (b : Bool) (l : List (Int × Int)) (n : Int) : Int × Int := if b = true ∧ 0 ≤ n then l.getD (n % l.length).toNat (0, 0) else (0, 0)
end Go.Proofs.YtphijlknefgkiaaGreatDoor
