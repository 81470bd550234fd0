/-
  Machines: whether one is right, copies, an answer put on: the contracts of the program's and of the specification's.
-/
import Derived.Test.YtgpdkodnggpkeaaOpen6
import Derived.Test.YtgpdkodnggpkeaaOwnII
namespace Go.Proofs.Ytgpdkodnggpkeaa
open Go.RowKit Go.PlainAid
set_option linter.unusedVariables false

def isW (x : Int) : Prop := 0 ≤ x ∧ x ≤ 65535
/-- a right machine -/
def CpuR (pc : Int) (st : List Int) : Prop := st.length ≤ 8 ∧ (0 ≤ pc ∧ pc ≤ 60) ∧ ∀ i (h : i < st.length), isW st[i]
def AllW (st : List Int) (j : Nat) : Prop := ∀ i (h : i < st.length), i < j → isW st[i]
theorem allW_zero (st : List Int) : AllW st 0 := fun i _ h => by omega
theorem allW_succ {st : List Int} {j : Nat} (h : AllW st j) (hj : j < st.length) (hr : isW st[j]) : AllW st (j + 1) := fun i hi hlt => by
  by_cases e : i = j
  · subst e; exact hr
  · exact h i hi (by omega)
theorem cpu_bool (pc : Int) (st : List Int) : ∃ b : Bool, b = true ↔ CpuR pc st := by
  by_cases hk : CpuR pc st
  · exact ⟨true, ⟨fun _ => hk, fun _ => rfl⟩⟩
  · exact ⟨false, ⟨fun h => (by cases h), fun h => absurd h hk⟩⟩
theorem not_cpu {pc : Int} {st : List Int} {b : Bool} (hb : b = true ↔ CpuR pc st) (h : ¬ CpuR pc st) : b = false := by
  cases b
  · rfl
  · exact absurd (hb.1 rfl) h
theorem cpu_end {pc : Int} {st : List Int} {b : Bool} (hb : b = true ↔ CpuR pc st) (h1 : st.length ≤ 8) (h2 : AllW st st.length) : decide (0 ≤ pc ∧ pc ≤ 60) = b := by
  by_cases hp : 0 ≤ pc ∧ pc ≤ 60
  · rw [decide_eq_true hp]; exact (hb.2 ⟨h1, hp, fun i h => h2 i h h⟩).symm
  · rw [decide_eq_false hp]; exact (not_cpu hb (fun h => hp h.2.1)).symm

/-- what a call of a machine lays first: its box -/
theorem box2 (w : World) (x y : Value) (t : TypeId) : (w.alloc (.cells #[x, y] t)).heap[w.heap.size]? = some (.cells #[x, y] t) ∧ Below w.heap.size w (w.alloc (.cells #[x, y] t)) ∧ (w.alloc (.cells #[x, y] t)).heap.size = w.heap.size + 1 :=
  ⟨heap_new w _, (Below.refl _ _).alloc (Nat.le_refl _) _, by simp⟩

theorem cell_onW {W W' : World} {p : Addr} {v : Value} (h : W.cell? p = some v) (hb : Below W.heap.size W W') : W'.cell? p = some v := (hb.cell (World.block_lt_of_cell? W p h)).trans h
def WordsR (l : List Int) : Prop := ∀ i (h : i < l.length), isW l[i]
theorem words_bool (l : List Int) : ∃ b : Bool, b = true ↔ WordsR l := by
  by_cases hk : WordsR l
  · exact ⟨true, ⟨fun _ => hk, fun _ => rfl⟩⟩
  · exact ⟨false, ⟨fun h => (by cases h), fun h => absurd h hk⟩⟩
theorem not_that {Q : Prop} {b : Bool} (hb : b = true ↔ Q) (h : ¬ Q) : b = false := by
  cases b
  · rfl
  · exact absurd (hb.1 rfl) h
theorem cpu_endS {pc : Int} {st : List Int} {b : Bool} (hb : b = true ↔ CpuR pc st) (h2 : AllW st st.length) : (if 0 ≤ pc ∧ pc ≤ 60 then decide (st.length ≤ 8) else false) = b := by
  by_cases hp : 0 ≤ pc ∧ pc ≤ 60
  · rw [if_pos hp]
    by_cases h1 : st.length ≤ 8
    · rw [decide_eq_true h1]; exact (hb.2 ⟨h1, hp, fun i h => h2 i h h⟩).symm
    · rw [decide_eq_false h1]; exact (not_cpu hb (fun h => h1 h.1)).symm
  · rw [if_neg hp]; exact (not_cpu hb (fun h => hp h.2.1)).symm

end Go.Proofs.Ytgpdkodnggpkeaa
