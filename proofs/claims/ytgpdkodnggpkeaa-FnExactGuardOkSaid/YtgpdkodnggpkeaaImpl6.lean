/-
  LoadCell, StoreCell, CellsOf, ClearCells, ArenaNew of the program: contracts.
-/
import Derived.Test.YtgpdkodnggpkeaaCells6
namespace Go.Proofs.Ytgpdkodnggpkeaa
open Go.RowKit Go.PlainAid
set_option linter.unusedVariables false

/-- whether there is a cell at of a region -/
def ldB (n : Nat) (f s p : Int) : Bool := decide (0 ≤ p ∧ p < (cutN n f s : Int))
def ldX (l : List Int) (f s p : Int) : Int := if 0 ≤ p ∧ p < (cutN l.length f s : Int) then l.getD (f + p).toNat 0 else 0
def stL (l : List Int) (f s p x : Int) : List Int := if 0 ≤ p ∧ p < (cutN l.length f s : Int) then l.set (f + p).toNat (x % 65536) else l
/-- the cells of a region that there are -/
def ceL (l : List Int) (f s : Int) : List Int := (l.drop f.toNat).take (cutN l.length f s)
/-- all of these 0 -/
def clL (l : List Int) (f s : Int) : List Int := l.take f.toNat ++ (List.replicate (cutN l.length f s) 0 ++ l.drop (f.toNat + cutN l.length f s))

theorem arena_start (w : World) (u x y : Value) (t r : TypeId) :
    ((w.alloc (.cells #[u] t)).alloc (.cells #[x, y] r)).heap[w.heap.size]? = some (.cells #[u] t) ∧ ((w.alloc (.cells #[u] t)).alloc (.cells #[x, y] r)).heap[w.heap.size + 1]? = some (.cells #[x, y] r) ∧ Below w.heap.size w ((w.alloc (.cells #[u] t)).alloc (.cells #[x, y] r)) := by
  refine ⟨(Below.heap_alloc _ _ _ (by simp)).trans (heap_new w _), ?_, ((Below.refl _ _).alloc (Nat.le_refl _) _).alloc (by simp) _⟩
  have := heap_new (w.alloc (.cells #[u] t)) (.cells #[x, y] r)
  simpa using this

/-- StoreCell's road up to the cut: the copy lies in a block of its own, the argument's box points to it -/
theorem set1_row {w : World} {k i : Nat} {cs : Array Value} {t : TypeId} {x : Value} (h : w.heap[k]? = some (.cells cs t)) : (w.setCell ⟨k, i, none⟩ x).heap[k]? = some (.cells (cs.setIfInBounds i x) t) := by
  simp [World.setCell, Array.getElem?_modify, h]
theorem set_other {w : World} {k j i : Nat} {x : Value} {o : Obj} (h : w.heap[j]? = some o) (hj : j ≠ k) : (w.setCell ⟨k, i, none⟩ x).heap[j]? = some o :=
  (Below.heap_setCell _ _ _ _ hj).trans h
theorem size_set (w : World) (p : Addr) (x : Value) : (w.setCell p x).heap.size = w.heap.size := by simp

theorem arena3_start (w : World) (u x y z : Value) (t r : TypeId) :
    (((w.alloc (.cells #[u] t)).alloc (.cells #[x, y] r)).alloc (.cells #[z] t)).heap[w.heap.size]? = some (.cells #[u] t) ∧ (((w.alloc (.cells #[u] t)).alloc (.cells #[x, y] r)).alloc (.cells #[z] t)).heap[w.heap.size + 1]? = some (.cells #[x, y] r) ∧ (((w.alloc (.cells #[u] t)).alloc (.cells #[x, y] r)).alloc (.cells #[z] t)).heap[w.heap.size + 2]? = some (.cells #[z] t) ∧ Below w.heap.size w (((w.alloc (.cells #[u] t)).alloc (.cells #[x, y] r)).alloc (.cells #[z] t)) ∧ (((w.alloc (.cells #[u] t)).alloc (.cells #[x, y] r)).alloc (.cells #[z] t)).heap.size = w.heap.size + 3 := by
  obtain ⟨h1, h2, h3⟩ := arena_start w u x y t r
  refine ⟨(Below.heap_alloc _ _ _ (row_lt h1)).trans h1, (Below.heap_alloc _ _ _ (row_lt h2)).trans h2, ?_, h3.alloc h3.size _, by simp⟩
  have := heap_new ((w.alloc (.cells #[u] t)).alloc (.cells #[x, y] r)) (.cells #[z] t)
  simpa using this

theorem stL_yes {l : List Int} {fn j n k : Nat} {s x : Int} (hl : l.length = n) (hk : cutN n (fn : Int) s = k) (hj : j < k) : stL l (fn : Int) s (j : Int) x = l.set (fn + j) (x % 65536) ∧ ldB n (fn : Int) s (j : Int) = true := by
  subst hl
  refine ⟨?_, decide_eq_true ⟨by omega, by omega⟩⟩
  unfold stL
  rw [if_pos ⟨by omega, by rw [hk]; omega⟩, show ((fn : Int) + (j : Int)).toNat = fn + j by omega]
theorem stL_no {l : List Int} {n k : Nat} {f s p x : Int} (hl : l.length = n) (hk : cutN n f s = k) (hp : ¬ (0 ≤ p ∧ p < (k : Int))) : stL l f s p x = l ∧ ldB n f s p = false := by
  subst hl
  refine ⟨?_, decide_eq_false (by rw [hk]; exact hp)⟩
  unfold stL
  rw [if_neg (by rw [hk]; exact hp)]

theorem made_ints (n : Nat) : madeCells #[.int .i64 0] n = (intsV (List.replicate n 0)).toArray := by
  apply Array.ext
  · simp [madeCells, intsV]
  · intro j h1 h2
    simp [madeCells, intsV, Nat.mod_one]

/-- 64 cells of 0 -/
def z64 : List Int := List.replicate 64 0
theorem make64 (w : World) : (Instr.makeSlice 24 (.int .i64 64) (.int .i64 64)).run Try.prog w = .ok (.slice (some ⟨w.heap.size, 0, none⟩) 64 64) (w.alloc (.cells (intsV z64).toArray 3)) := by
  have h := run_make_row' (P := Try.prog) 24 3 (.int .i64 0) 8 Try.underlying24 info3 rfl .i64 .i64 64 (by omega) (by omega) w
  rw [made_ints] at h
  exact h

theorem row_alloc2 (w : World) (o : Obj) (l : List Int) : RowAt ((w.alloc o).alloc (.cells (intsV l).toArray 3)) (w.heap.size + 1) l := by
  have := heap_new (w.alloc o) (.cells (intsV l).toArray 3)
  simpa [RowAt] using this

end Go.Proofs.Ytgpdkodnggpkeaa
