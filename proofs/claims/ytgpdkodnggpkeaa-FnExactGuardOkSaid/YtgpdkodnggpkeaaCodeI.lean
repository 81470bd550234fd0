/-
  Whether code is right: the contracts of the program's and of the specification's.
-/
import Derived.Test.YtgpdkodnggpkeaaInsI
namespace Go.Proofs.Ytgpdkodnggpkeaa.I
open Go.RowKit Go.PlainAid
set_option linter.unusedVariables false

def isB (x : Int) : Prop := 0 ≤ x ∧ x ≤ 255
/-- right code -/
def CodeR (rl : List (Int × Int)) : Prop := rl.length ≤ 60 ∧ ∀ i (h : i < rl.length), isB rl[i].1 ∧ isB rl[i].2
def AllB (rl : List (Int × Int)) (j : Nat) : Prop := ∀ i (h : i < rl.length), i < j → isB rl[i].1 ∧ isB rl[i].2
theorem allB_zero (rl : List (Int × Int)) : AllB rl 0 := fun i _ h => by omega
theorem allB_succ {rl : List (Int × Int)} {j : Nat} (h : AllB rl j) (hj : j < rl.length) (hr : isB rl[j].1 ∧ isB rl[j].2) : AllB rl (j + 1) := fun i hi hlt => by
  by_cases e : i = j
  · subst e; exact hr
  · exact h i hi (by omega)
theorem code_bool (rl : List (Int × Int)) : ∃ b : Bool, b = true ↔ CodeR rl := by
  by_cases hk : CodeR rl
  · exact ⟨true, ⟨fun _ => hk, fun _ => rfl⟩⟩
  · exact ⟨false, ⟨fun h => (by cases h), fun h => absurd h hk⟩⟩
theorem not_code {rl : List (Int × Int)} {b : Bool} (hb : b = true ↔ CodeR rl) (j : Nat) (hj : j < rl.length) (h : ¬ (isB rl[j].1 ∧ isB rl[j].2)) : b = false := by
  cases b
  · rfl
  · exact absurd ((hb.1 rfl).2 j hj) h
theorem not_long {rl : List (Int × Int)} {b : Bool} (hb : b = true ↔ CodeR rl) (h : ¬ rl.length ≤ 60) : b = false := by
  cases b
  · rfl
  · exact absurd (hb.1 rfl).1 h

end Go.Proofs.Ytgpdkodnggpkeaa.I
