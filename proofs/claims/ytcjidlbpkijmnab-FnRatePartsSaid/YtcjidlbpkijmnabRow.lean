/-
  A list of bytes that came in: what the row's reading tells of it.
-/
import Derived.Test.YtcjidlbpkijmnabDraw
import Derived.OpenShut
namespace Go.Proofs.Ytcjidlbpkijmnab
open Go.ChangeShapes Go.WideShapes Go.ChangeAt Go.RowKit Go.PlainAid
set_option linter.unusedVariables false

/-- what the walk is told of a list of bytes that came in -/
def IsRow (k : IntKind) (w : World) (a : Option Addr) (len cap : Nat) (zs : List Int) : Prop :=
  (a = none ∧ len = 0 ∧ cap = 0 ∧ zs = []) ∨
  ∃ x, a = some x ∧ len ≤ cap ∧ cap ≤ maxLen ∧ zs.length = cap ∧ (∀ i, i < zs.length → w.cell? (x.add i) = some (.int k (zs.getD i 0))) ∧ ∀ n ∈ zs, (Lit.int k n).wf = true

theorem byte_wf {n : Int} (h : (Lit.int .u8 n).wf = true) : 0 ≤ n ∧ n ≤ 255 := by
  simpa [Lit.wf, IntKind.min, IntKind.max, IntKind.signed, IntKind.bits] using h

theorem code_of_row {w : World} {a : Option Addr} {len cap : Nat} {zs : List Int} (h : IsRow .u8 w a len cap zs) (hl : len ≤ 1048576) : CodeOk w w.heap.size a len := by
  refine ⟨hl, fun hp => ?_⟩
  rcases h with ⟨rfl, rfl, rfl, rfl⟩ | ⟨x, rfl, h1, h2, h3, h4, h5⟩
  · omega
  · obtain ⟨b, off, rfl, hc⟩ := ints_at h4 (by omega)
    refine ⟨b, off, rfl, ?_, fun j hj => ?_⟩
    · have := hc 0 (by omega)
      exact World.block_lt_of_cell? w _ this
    · have hj' : j < zs.length := by omega
      have hm : zs.getD j 0 ∈ zs := by simp [List.getD_eq_getElem?_getD, List.getElem?_eq_getElem hj']
      have hw := byte_wf (h5 _ hm)
      exact ⟨zs.getD j 0, hw.1, hw.2, hc j hj'⟩
end Go.Proofs.Ytcjidlbpkijmnab
