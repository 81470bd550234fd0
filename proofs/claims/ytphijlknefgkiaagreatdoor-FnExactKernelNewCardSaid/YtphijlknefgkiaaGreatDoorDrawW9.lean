/-
  Drawn plans: the contract of the specification's draw of a plan.
-/
import Derived.Test.YtphijlknefgkiaaGreatDoorPlan9
import Derived.Test.YtphijlknefgkiaaGreatDoorAppWin
import Derived.Test.YtphijlknefgkiaaGreatDoorDraw
import Derived.Test.YtphijlknefgkiaaGreatDoorPlaces
namespace Go.Proofs.YtphijlknefgkiaaGreatDoor
open Go.RowKit Go.PlainAid
set_option linter.unusedVariables false

theorem own_shapeW {w : World} {B e z n : Nat} {v : Value} {xs : List Value} (h : w.ownsRow B e z v n xs) : ∃ a cap, v = .slice a n cap := by
  rcases h.2 with ⟨rfl, e⟩ | ⟨g, cap, cur, rfl, _⟩
  · exact ⟨none, 0, by rw [e]⟩
  · exact ⟨_, cap, rfl⟩
/-- windows of so many parts -/
def WinsOf (parts : Int) (l : List (Int × Int)) : Prop := ∀ p ∈ l, (1 ≤ p.1 ∧ p.1 ≤ parts) ∧ (1 ≤ p.2 ∧ p.2 ≤ 40)
theorem winsOf_nil (parts : Int) : WinsOf parts [] := fun p h => by cases h
theorem winsOf_add {parts : Int} {l : List (Int × Int)} {f s : Int} (h : WinsOf parts l) (hf : 1 ≤ f ∧ f ≤ parts) (hs : 1 ≤ s ∧ s ≤ 40) : WinsOf parts (l ++ [(f, s)]) := fun p hp => by
  rcases List.mem_append.1 hp with h' | h'
  · exact h p h'
  · simp at h'
    subst h'
    exact ⟨hf, hs⟩
theorem winsOf_plan {parts : Int} {l : List (Int × Int)} (h : WinsOf parts l) (hp : parts ≤ 4) (h1 : 1 ≤ l.length) (h2 : l.length ≤ 12) : PlanR l :=
  ⟨⟨h1, h2⟩, fun i hi => by have := h l[i] (List.getElem_mem hi); exact ⟨⟨this.1.1, by omega⟩, ⟨this.2.1, by omega⟩⟩⟩

end Go.Proofs.YtphijlknefgkiaaGreatDoor
