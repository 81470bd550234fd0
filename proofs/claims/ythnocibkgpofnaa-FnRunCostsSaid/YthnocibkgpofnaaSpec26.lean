/-
  CellsOf and ClearCells of the specification: contracts.
-/
import Derived.Test.YthnocibkgpofnaaSpec6
namespace Go.Proofs.Ythnocibkgpofnaa
open Go.RowKit Go.PlainAid
set_option linter.unusedVariables false

theorem own_nothing (w : World) (B : Nat) (a : Option Addr) (hB : B ≤ w.heap.size) : (w.alloc (.cells #[] 3)).ownsRow B 3 1 (.slice (some ⟨w.heap.size, 0, none⟩) 0 0) 0 (intsV []) := own_built3 w B hB

theorem atP_in {n p : Nat} {f s : Int} (h : p < cutN n f s) : atP n f s (p : Int) = f + p := if_pos ⟨by omega, by omega⟩
theorem atP_out {n p : Nat} {f s : Int} (h : ¬ p < cutN n f s) : atP n f s (p : Int) = -1 := if_neg (by omega)

/-- what stands while cells are gathered -/
def CLive (w W : World) (u x y : Value) : Prop := W.heap[w.heap.size]? = some (.cells #[u] 34) ∧ W.heap[w.heap.size + 1]? = some (.cells #[x, y] 36) ∧ Below w.heap.size w W
theorem clive_start (w : World) (u x y : Value) : CLive w ((w.alloc (.cells #[u] 34)).alloc (.cells #[x, y] 36)) u x y := arena_start w u x y _ _
theorem CLive.alloc {w W : World} {u x y : Value} (h : CLive w W u x y) (o : Obj) : CLive w (W.alloc o) u x y :=
  ⟨(Below.heap_alloc _ _ _ (row_lt h.1)).trans h.1, (Below.heap_alloc _ _ _ (row_lt h.2.1)).trans h.2.1, h.2.2.alloc h.2.2.size _⟩
theorem CLive.keep {w W W' : World} {u x y : Value} (h : CLive w W u x y) (hb : Below W.heap.size W W') : CLive w W' u x y :=
  ⟨row_after h.1 hb (row_lt h.1), row_after h.2.1 hb (row_lt h.2.1), h.2.2.trans (hb.mono h.2.2.size)⟩
theorem CLive.grown {w W W' : World} {u x y : Value} {r : Option Nat} (h : CLive w W u x y) (hg : W.grownBy W' r) (hr : ∀ g, r = some g → w.heap.size + 2 ≤ g) : CLive w W' u x y :=
  ⟨grown_row hg h.1 (fun e => by have := hr _ e; omega), grown_row hg h.2.1 (fun e => by have := hr _ e; omega), h.2.2.grown hg h.2.2.size (fun g e => by have := hr g e; omega)⟩
theorem CLive.lt {w W : World} {u x y : Value} (h : CLive w W u x y) : w.heap.size + 2 ≤ W.heap.size := row_lt h.2.1

/-- what stands while cells are cleared: the arena's box, the region's, the answer's, that of the copy -/
def KLive (w W : World) (u x y v : Value) (Z : Nat) : Prop := CLive w W u x y ∧ W.heap[w.heap.size + 2]? = some (.cells #[.slice none 0 0] 34) ∧ W.heap[Z]? = some (.cells #[v] 34) ∧ w.heap.size + 3 ≤ Z
theorem KLive.keep {w W W' : World} {u x y v : Value} {Z : Nat} (h : KLive w W u x y v Z) (hb : Below W.heap.size W W') : KLive w W' u x y v Z :=
  ⟨h.1.keep hb, row_after h.2.1 hb (row_lt h.2.1), row_after h.2.2.1 hb (row_lt h.2.2.1), h.2.2.2⟩
theorem KLive.set {w W : World} {u x y v z : Value} {Z g i : Nat} (h : KLive w W u x y v Z) (hg : w.heap.size + 3 ≤ g) (hZ : g ≠ Z) : KLive w (W.setCell ⟨g, i, none⟩ z) u x y v Z :=
  ⟨⟨set_other h.1.1 (by omega), set_other h.1.2.1 (by omega), h.1.2.2.setCell (by show _ ≤ g; omega) _⟩, set_other h.2.1 (by omega), set_other h.2.2.1 (by omega), h.2.2.2⟩
theorem own_put {w : World} {B n g c j : Nat} {l : List Int} {x : Int} (h : w.ownsRow B 3 1 (.slice (some ⟨g, 0, none⟩) n c) n (intsV l)) (hj : j < l.length) : (w.setCell ⟨g, j, none⟩ (.int .i64 x)).ownsRow B 3 1 (.slice (some ⟨g, 0, none⟩) n c) n (intsV (l.set j x)) := by
  have := (h.stored j (.int .i64 x)).1
  rw [intsV_set] at this
  exact this

theorem own_addr {w : World} {B e z n c : Nat} {q : Option Addr} {xs : List Value} (h : w.ownsRow B e z (.slice q n c) n xs) (h0 : 0 < n) : ∃ g, q = some ⟨g, 0, none⟩ ∧ B ≤ g := by
  rcases h.2 with ⟨hv, e⟩ | ⟨g, cap, cur, hv, hg, _⟩
  · omega
  · cases hv
    exact ⟨g, rfl, hg⟩
theorem own_at {w : World} {B n g c j : Nat} {l : List Int} (h : w.ownsRow B 3 1 (.slice (some ⟨g, 0, none⟩) n c) n (intsV l)) (hj : j < l.length) : w.cell? ⟨g, j, none⟩ = some (.int .i64 l[j]) ∧ w.frozen? ⟨g, j, none⟩ = false := by
  have hl : l.length = n := by have := h.1; rw [intsV_len] at this; omega
  refine ⟨?_, h.frozenAt j⟩
  rw [h.cellAt j (by omega)]
  simp [intsV, hj]

end Go.Proofs.Ythnocibkgpofnaa
