/-
  What is wrong with a set-up: mathematics.
-/
import Derived.Test.YtfdhcchakoldpaaSet11
import Derived.Test.YtfdhcchakoldpaaRegsX
import Derived.Test.YtfdhcchakoldpaaRCodeX
import Derived.Test.YtfdhcchakoldpaaPortIX
namespace Go.Proofs.Ytfdhcchakoldpaa
open Go.RowKit Go.PlainAid
set_option linter.unusedVariables false

def prtR (p : Prt) : Prop := P.PortR p.1 p.2.1 p.2.2.1 p.2.2.2.1 p.2.2.2.2
def PortsX (X : SX) : Prop := X.O.length ≤ 6 ∧ ∀ i (h : i < X.O.length), prtR X.O[i]
def CodesX (X : SX) : Prop := X.S.length = X.R.length ∧ ∀ i (h : i < X.S.length), I.RcOk X.S[i]
def PartsX (X : SX) : Prop := (∀ i (h : i < X.W.length), (X.W[i]).1 ≤ (X.R.length : Int)) ∧ (∀ i (h : i < X.O.length), (X.O[i]).2.1 ≤ (X.R.length : Int) ∧ (X.O[i]).2.2.1 ≤ (X.R.length : Int)) ∧ (∀ i (h : i < X.U.length), (X.U[i]).1 ≤ (X.R.length : Int))
/-- right set-ups -/
def RightX (X : SX) : Prop := R.RegsOk X.R ∧ PlanR X.W ∧ PortsX X ∧ RulesR X.U ∧ CodesX X ∧ PartsX X
/-- the fault that is told -/
def FaultX (X : SX) (f : Int) : Prop :=
  (¬ R.RegsOk X.R ∧ f = 1) ∨ (R.RegsOk X.R ∧ ¬ PlanR X.W ∧ f = 2) ∨ (R.RegsOk X.R ∧ PlanR X.W ∧ ¬ PortsX X ∧ f = 3) ∨ (R.RegsOk X.R ∧ PlanR X.W ∧ PortsX X ∧ ¬ RulesR X.U ∧ f = 4) ∨
  (R.RegsOk X.R ∧ PlanR X.W ∧ PortsX X ∧ RulesR X.U ∧ ¬ CodesX X ∧ f = 5) ∨ (R.RegsOk X.R ∧ PlanR X.W ∧ PortsX X ∧ RulesR X.U ∧ CodesX X ∧ ¬ PartsX X ∧ f = 6) ∨ (RightX X ∧ f = 0)
theorem fault_ex (X : SX) : ∃ f, FaultX X f := by
  by_cases h1 : R.RegsOk X.R
  · by_cases h2 : PlanR X.W
    · by_cases h3 : PortsX X
      · by_cases h4 : RulesR X.U
        · by_cases h5 : CodesX X
          · by_cases h6 : PartsX X
            · exact ⟨0, .inr (.inr (.inr (.inr (.inr (.inr ⟨⟨h1, h2, h3, h4, h5, h6⟩, rfl⟩)))))⟩
            · exact ⟨6, .inr (.inr (.inr (.inr (.inr (.inl ⟨h1, h2, h3, h4, h5, h6, rfl⟩)))))⟩
          · exact ⟨5, .inr (.inr (.inr (.inr (.inl ⟨h1, h2, h3, h4, h5, rfl⟩))))⟩
        · exact ⟨4, .inr (.inr (.inr (.inl ⟨h1, h2, h3, h4, rfl⟩)))⟩
      · exact ⟨3, .inr (.inr (.inl ⟨h1, h2, h3, rfl⟩))⟩
    · exact ⟨2, .inr (.inl ⟨h1, h2, rfl⟩)⟩
  · exact ⟨1, .inl ⟨h1, rfl⟩⟩
theorem fault1 {X : SX} {f : Int} (h : FaultX X f) (h1 : ¬ R.RegsOk X.R) : f = 1 := by
  rcases h with h | h | h | h | h | h | h
  · exact h.2
  all_goals exact absurd h.1 (fun h' => h1 (by first | exact h' | exact h'.1))
theorem fault2 {X : SX} {f : Int} (h : FaultX X f) (h1 : R.RegsOk X.R) (h2 : ¬ PlanR X.W) : f = 2 := by
  rcases h with h | h | h | h | h | h | h
  · exact absurd h1 h.1
  · exact h.2.2
  · exact absurd h.2.1 h2
  · exact absurd h.2.1 h2
  · exact absurd h.2.1 h2
  · exact absurd h.2.1 h2
  · exact absurd h.1.2.1 h2
theorem fault3 {X : SX} {f : Int} (h : FaultX X f) (h1 : R.RegsOk X.R) (h2 : PlanR X.W) (h3 : ¬ PortsX X) : f = 3 := by
  rcases h with h | h | h | h | h | h | h
  · exact absurd h1 h.1
  · exact absurd h2 h.2.1
  · exact h.2.2.2
  · exact absurd h.2.2.1 h3
  · exact absurd h.2.2.1 h3
  · exact absurd h.2.2.1 h3
  · exact absurd h.1.2.2.1 h3
theorem fault4 {X : SX} {f : Int} (h : FaultX X f) (h1 : R.RegsOk X.R) (h2 : PlanR X.W) (h3 : PortsX X) (h4 : ¬ RulesR X.U) : f = 4 := by
  rcases h with h | h | h | h | h | h | h
  · exact absurd h1 h.1
  · exact absurd h2 h.2.1
  · exact absurd h3 h.2.2.1
  · exact h.2.2.2.2
  · exact absurd h.2.2.2.1 h4
  · exact absurd h.2.2.2.1 h4
  · exact absurd h.1.2.2.2.1 h4
theorem fault5 {X : SX} {f : Int} (h : FaultX X f) (h1 : R.RegsOk X.R) (h2 : PlanR X.W) (h3 : PortsX X) (h4 : RulesR X.U) (h5 : ¬ CodesX X) : f = 5 := by
  rcases h with h | h | h | h | h | h | h
  · exact absurd h1 h.1
  · exact absurd h2 h.2.1
  · exact absurd h3 h.2.2.1
  · exact absurd h4 h.2.2.2.1
  · exact h.2.2.2.2.2
  · exact absurd h.2.2.2.2.1 h5
  · exact absurd h.1.2.2.2.2.1 h5
theorem fault6 {X : SX} {f : Int} (h : FaultX X f) (h1 : R.RegsOk X.R) (h2 : PlanR X.W) (h3 : PortsX X) (h4 : RulesR X.U) (h5 : CodesX X) : (PartsX X ∧ f = 0) ∨ (¬ PartsX X ∧ f = 6) := by
  rcases h with h | h | h | h | h | h | h
  · exact absurd h1 h.1
  · exact absurd h2 h.2.1
  · exact absurd h3 h.2.2.1
  · exact absurd h4 h.2.2.2.1
  · exact absurd h5 h.2.2.2.2.1
  · exact .inr ⟨h.2.2.2.2.2.1, h.2.2.2.2.2.2⟩
  · exact .inl ⟨h.1.2.2.2.2.2, h.2⟩
theorem fault_right {X : SX} {f : Int} (h : FaultX X f) : f = 0 ↔ RightX X := by
  rcases h with h | h | h | h | h | h | h
  · exact ⟨fun e => by have := h.2; omega, fun e => absurd e.1 h.1⟩
  · exact ⟨fun e => by have := h.2.2; omega, fun e => absurd e.2.1 h.2.1⟩
  · exact ⟨fun e => by have := h.2.2.2; omega, fun e => absurd e.2.2.1 h.2.2.1⟩
  · exact ⟨fun e => by have := h.2.2.2.2; omega, fun e => absurd e.2.2.2.1 h.2.2.2.1⟩
  · exact ⟨fun e => by have := h.2.2.2.2.2; omega, fun e => absurd e.2.2.2.2.1 h.2.2.2.2.1⟩
  · exact ⟨fun e => by have := h.2.2.2.2.2.2; omega, fun e => absurd e.2.2.2.2.2 h.2.2.2.2.2.1⟩
  · exact ⟨fun _ => h.1, fun _ => h.2⟩
theorem prop_bool (p : Prop) : ∃ b : Bool, b = true ↔ p := by
  by_cases h : p
  · exact ⟨true, ⟨fun _ => h, fun _ => rfl⟩⟩
  · exact ⟨false, ⟨fun h' => (by cases h'), fun h' => absurd h' h⟩⟩
end Go.Proofs.Ytfdhcchakoldpaa
