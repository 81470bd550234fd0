/-
  Ports: which are right, and what carries them.
-/
import Derived.Test.YtfdhcchakoldpaaOwnMsP
namespace Go.Proofs.Ytfdhcchakoldpaa.P
open Go.RowKit Go.PlainAid
set_option linter.unusedVariables false

/-- a port that is right -/
def PortR (k f t m fr : Int) : Prop := (1 ≤ f ∧ f ≤ 4) ∧ (1 ≤ t ∧ t ≤ 4) ∧ f ≠ t ∧ ((k = 1 ∧ (1 ≤ m ∧ m ≤ 6) ∧ fr = 0) ∨ (k = 2 ∧ m = 1 ∧ (1 ≤ fr ∧ fr ≤ 100)))
abbrev PV (k f t m fr : Int) : Value := .agg #[.int .i64 k, .int .i64 f, .int .i64 t, .int .i64 m, .int .i64 fr]
theorem port_bool (k f t m fr : Int) : ∃ b : Bool, b = true ↔ PortR k f t m fr := by
  by_cases h : PortR k f t m fr
  · exact ⟨true, ⟨fun _ => h, fun _ => rfl⟩⟩
  · exact ⟨false, ⟨fun h => (by cases h), fun h' => absurd h' h⟩⟩
theorem port_no {k f t m fr : Int} {b : Bool} (hb : b = true ↔ PortR k f t m fr) (h : ¬ PortR k f t m fr) : b = false := by
  cases b
  · rfl
  · exact absurd (hb.1 rfl) h

theorem box5_cells {w : World} {k : Nat} {t : TypeId} {x y z u v : Value} (h : w.heap[k]? = some (.cells #[x, y, z, u, v] t)) :
    (w.cell? ⟨k, 0, none⟩ = some x ∧ w.cell? ⟨k, 1, none⟩ = some y ∧ w.cell? ⟨k, 2, none⟩ = some z ∧ w.cell? ⟨k, 3, none⟩ = some u ∧ w.cell? ⟨k, 4, none⟩ = some v) ∧ (w.frozen? ⟨k, 0, none⟩ = false ∧ w.frozen? ⟨k, 1, none⟩ = false ∧ w.frozen? ⟨k, 2, none⟩ = false ∧ w.frozen? ⟨k, 3, none⟩ = false ∧ w.frozen? ⟨k, 4, none⟩ = false) := by
  refine ⟨⟨?_, ?_, ?_, ?_, ?_⟩, ?_, ?_, ?_, ?_, ?_⟩ <;> simp [World.cell?, World.frozen?, h]

end Go.Proofs.Ytfdhcchakoldpaa.P
