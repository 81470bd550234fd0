/-
  A list of ticks, as it came in.
-/
import Derived.Test.YtfdhcchakoldpaaTilM
namespace Go.Proofs.Ytfdhcchakoldpaa
open Go.ChangeShapes Go.WideShapes Go.ChangeAt Go.RowKit Go.PlainAid
set_option linter.unusedVariables false

set_option maxRecDepth 100000 in
theorem openY_v {H : Type} {enc : TypeId × Value → H} {W : World} {base : Nat} {held : Bool} {v : Value} {d : DataW H} {ps : List MemPlace} {bs : Nat}
    (hv : Value.okWide Try.prog W .any base 46 v) (h : DataW.Trod enc Try.prog W bs (fun _ => true) held 46 v d ps) :
    ∃ a len cap, ∃ l : List (Int × Int × Int), v = .slice a len cap ∧ l.length = len ∧ len ≤ cap ∧ len ≤ 9223372036854775807 ∧ RdY W a l ∧ ∀ j (h : j < l.length), (Lit.int .i64 l[j].1).wf = true ∧ (Lit.int .i64 l[j].2.1).wf = true ∧ (Lit.int .i64 l[j].2.2).wf = true := by
  obtain ⟨a, len, cap, rfl⟩ := okWide_slice Try.underlying46 hv
  obtain ⟨fuel, hf⟩ := h
  obtain ⟨a', len', cap', l, e, h1, h2, h3, h4, h5⟩ := openY (v := .slice a len cap) hf
  cases e
  exact ⟨a, len, cap, l, rfl, h1, h2, h3, h4, h5⟩
end Go.Proofs.Ytfdhcchakoldpaa
