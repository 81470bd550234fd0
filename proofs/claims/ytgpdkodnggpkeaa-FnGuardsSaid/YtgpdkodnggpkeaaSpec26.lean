/-
  CellsOf and ClearCells of the specification: contracts.
-/
import Derived.Test.YtgpdkodnggpkeaaSpec6
namespace Go.Proofs.Ytgpdkodnggpkeaa
open Go.RowKit Go.PlainAid
set_option linter.unusedVariables false

theorem own_nothing (w : World) (B : Nat) (a : Option Addr) (hB : B ≤ w.heap.size) : (w.alloc (.cells #[] 3)).ownsRow B 3 1 (.slice (some ⟨w.heap.size, 0, none⟩) 0 0) 0 (intsV []) := own_built3 w B hB

theorem atP_in {n p : Nat} {f s : Int} (h : p < cutN n f s) : atP n f s (p : Int) = f + p := if_pos ⟨by omega, by omega⟩
theorem atP_out {n p : Nat} {f s : Int} (h : ¬ p < cutN n f s) : atP n f s (p : Int) = -1 := if_neg (by omega)

theorem own_put {w : World} {B n g c j : Nat} {l : List Int} {x : Int} (h : w.ownsRow B 3 1 (.slice (some ⟨g, 0, none⟩) n c) n (intsV l)) (hj : j < l.length) : (w.setCell ⟨g, j, none⟩ (.int .i64 x)).ownsRow B 3 1 (.slice (some ⟨g, 0, none⟩) n c) n (intsV (l.set j x)) := by
  have := (h.stored j (.int .i64 x)).1
  rw [intsV_set] at this
  exact this

theorem own_addr {w : World} {B e z n c : Nat} {q : Option Addr} {xs : List Value} (h : w.ownsRow B e z (.slice q n c) n xs) (h0 : 0 < n) : ∃ g, q = some ⟨g, 0, none⟩ ∧ B ≤ g := by
  rcases h.2 with ⟨hv, e⟩ | ⟨g, cap, cur, hv, hg, _⟩
  · omega
  · cases hv
    exact ⟨g, rfl, hg⟩
theorem own_at {w : World} {B n g c j : Nat} {l : List Int} (h : w.ownsRow B 3 1 (.slice (some ⟨g, 0, none⟩) n c) n (intsV l)) (hj : j < l.length) : w.cell? ⟨g, j, none⟩ = some (.int .i64 l[j]) ∧ w.frozen? ⟨g, j, none⟩ = false := by
  have hl : l.length = n := by have := h.1; rw [intsV_len] at this; omega
  refine ⟨?_, h.frozenAt j⟩
  rw [h.cellAt j (by omega)]
  simp [intsV, hj]

end Go.Proofs.Ytgpdkodnggpkeaa
