/-
  Plans: which are right; PlanOk, TimeOf and WindowAt of the specification.
-/
import Derived.Test.YtokcbfgajcelhabOwnWin
namespace Go.Proofs.Ytokcbfgajcelhab
open Go.RowKit Go.PlainAid
set_option linter.unusedVariables false

/-- a window that is right -/
def isWin (p : Int × Int) : Prop := (1 ≤ p.1 ∧ p.1 ≤ 4) ∧ (1 ≤ p.2 ∧ p.2 ≤ 200)
/-- a plan that is right -/
def PlanR (rl : List (Int × Int)) : Prop := (1 ≤ rl.length ∧ rl.length ≤ 12) ∧ ∀ i (h : i < rl.length), isWin rl[i]
def AllP (rl : List (Int × Int)) (j : Nat) : Prop := ∀ i (h : i < rl.length), i < j → isWin rl[i]
theorem allP_zero (rl : List (Int × Int)) : AllP rl 0 := fun i _ h => by omega
theorem allP_succ {rl : List (Int × Int)} {j : Nat} (h : AllP rl j) (hj : j < rl.length) (hr : (1 ≤ rl[j].1 ∧ rl[j].1 ≤ 4) ∧ (1 ≤ rl[j].2 ∧ rl[j].2 ≤ 200)) : AllP rl (j + 1) := fun i hi hlt => by
  rcases Nat.lt_or_ge i j with h' | h'
  · exact h i hi h'
  · obtain rfl : i = j := by omega
    exact hr
theorem plan_bool (rl : List (Int × Int)) : ∃ b : Bool, b = true ↔ PlanR rl := by
  by_cases h : PlanR rl
  · exact ⟨true, ⟨fun _ => h, fun _ => rfl⟩⟩
  · exact ⟨false, ⟨fun h => (by cases h), fun h' => absurd h' h⟩⟩
theorem plan_no {rl : List (Int × Int)} {b : Bool} (hb : b = true ↔ PlanR rl) (h : ¬ PlanR rl) : b = false := by
  cases b
  · rfl
  · exact absurd (hb.1 rfl) h
theorem not_plan {rl : List (Int × Int)} {b : Bool} (hb : b = true ↔ PlanR rl) (j : Nat) (hj : j < rl.length) (h : ¬ ((1 ≤ rl[j].1 ∧ rl[j].1 ≤ 4) ∧ (1 ≤ rl[j].2 ∧ rl[j].2 ≤ 200))) : b = false := plan_no hb (fun hp => h (hp.2 j hj))
theorem not_size {rl : List (Int × Int)} {b : Bool} (hb : b = true ↔ PlanR rl) (h : ¬ (1 ≤ rl.length ∧ rl.length ≤ 12)) : b = false := plan_no hb (fun hp => h hp.1)

/-- the sum of the budgets of a part's windows, as it is reckoned -/
def timeF (part : Int) : List (Int × Int) → Int → Int
  | [], acc => acc
  | p :: t, acc => timeF part t (if p.1 = part then wrap64 (acc + p.2) else acc)
theorem timeF_snoc (part : Int) (p : Int × Int) : ∀ (l : List (Int × Int)) (acc : Int), timeF part (l ++ [p]) acc = if p.1 = part then wrap64 (timeF part l acc + p.2) else timeF part l acc
  | [], acc => rfl
  | x :: t, acc => timeF_snoc part p t _

/-- the window at a place -/
def winAt (b : Bool) (l : List (Int × Int)) (n : Int) : Int × Int := if b = true ∧ 0 ≤ n then l.getD (n % l.length).toNat (0, 0) else (0, 0)
end Go.Proofs.Ytokcbfgajcelhab
