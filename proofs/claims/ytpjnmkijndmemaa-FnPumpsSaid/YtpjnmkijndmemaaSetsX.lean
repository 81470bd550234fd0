/-
  A cell of a block written.
-/
import Derived.Test.YtpjnmkijndmemaaInsI
namespace Go.Proofs.Ytpjnmkijndmemaa.I
open Go.RowKit Go.PlainAid
set_option linter.unusedVariables false

/-- StoreCell's road up to the cut: the copy lies in a block of its own, the argument's box points to it -/
theorem set1_row {w : World} {k i : Nat} {cs : Array Value} {t : TypeId} {x : Value} (h : w.heap[k]? = some (.cells cs t)) : (w.setCell ⟨k, i, none⟩ x).heap[k]? = some (.cells (cs.setIfInBounds i x) t) := by
  simp [World.setCell, Array.getElem?_modify, h]

theorem set_other {w : World} {k j i : Nat} {x : Value} {o : Obj} (h : w.heap[j]? = some o) (hj : j ≠ k) : (w.setCell ⟨k, i, none⟩ x).heap[j]? = some o :=
  (Below.heap_setCell _ _ _ _ hj).trans h
end Go.Proofs.Ytpjnmkijndmemaa.I
