/-
  Ports and lines that came in: what a row's reading tells of them.
-/
import Derived.Test.YtacpoandikheeaaTakeI
import Derived.Test.YtacpoandikheeaaRows
import Derived.OpenShut
import Derived.ChangeSame
import Derived.ChangeOld
import Derived.Deep.SlicePairs
namespace Go.Proofs.Ytacpoandikheeaa
open Go.ChangeShapes Go.WideShapes Go.ChangeAt Go.RowKit Go.PlainAid
set_option linter.unusedVariables false

theorem cellsPort : Try.prog.cellsOf 23 = 5 := by kernel_rfl
theorem cellsLine : Try.prog.cellsOf 26 = 1 := by kernel_rfl
theorem cellsMsgS : Try.prog.cellsOf 24 = 1 := by kernel_rfl
theorem wf_in {n : Int} (h : (Lit.int .i64 n).wf = true) : InI n := by
  simp only [Lit.wf, Bool.and_eq_true, decide_eq_true_eq] at h
  unfold InI
  have h1 : IntKind.i64.min = -9223372036854775808 := by rfl
  have h2 : IntKind.i64.max = 9223372036854775807 := by rfl
  omega

set_option maxRecDepth 100000 in
theorem open_port {H : Type} {enc : TypeId × Value → H} {W : World} {base : Nat} {held : Bool} {v : Value} {d : DataW H} {ps : List MemPlace} {bs : Nat}
    (hv : Value.okWide Try.prog W .any base 23 v) (h : DataW.Trod enc Try.prog W bs (fun _ => true) held 23 v d ps) :
    ∃ k f t m fr : Int, v = .agg #[.int .i64 k, .int .i64 f, .int .i64 t, .int .i64 m, .int .i64 fr] := by
  obtain ⟨cs, rfl, hsz⟩ := okWide_struct Try.underlying23 hv
  rw [cellsPort] at hsz
  obtain ⟨l⟩ := cs
  match l, hsz with
  | [c0, c1, c2, c3, c4], _ =>
  obtain ⟨fuel, hf⟩ := h
  obtain ⟨xs, n, _, _, hl, hlen, hg⟩ := DataW.trod_struct Try.underlying23 hf
  match xs, hlen with
  | [y0, y1, y2, y3, y4], _ =>
  have g0 := hg 0 _ rfl
  have g1 := hg 1 _ rfl
  have g2 := hg 2 _ rfl
  have g3 := hg 3 _ rfl
  have g4 := hg 4 _ rfl
  simp only [List.getElem?_cons_zero, List.getElem?_cons_succ] at g0 g1 g2 g3 g4
  obtain ⟨a0, e0, _, _⟩ := DataW.trod_int Try.underlying3 g0
  obtain ⟨a1, e1, _, _⟩ := DataW.trod_int Try.underlying3 g1
  obtain ⟨a2, e2, _, _⟩ := DataW.trod_int Try.underlying3 g2
  obtain ⟨a3, e3, _, _⟩ := DataW.trod_int Try.underlying3 g3
  obtain ⟨a4, e4, _, _⟩ := DataW.trod_int Try.underlying3 g4
  simp [Value.cells, cells3] at e0 e1 e2 e3 e4
  subst e0 e1 e2 e3 e4
  exact ⟨a0, a1, a2, a3, a4, rfl⟩

/-- what the walk is told of a line that came in -/
def IsLine (w : World) (a : Option Addr) (len cap : Nat) (rl : List (Int × Int)) : Prop := rl.length = len ∧ len ≤ cap ∧ len ≤ 9223372036854775807 ∧ (∀ p ∈ rl, InI p.2) ∧ RdR w a rl
set_option maxRecDepth 100000 in
theorem open_line {H : Type} {enc : TypeId × Value → H} {W : World} {base : Nat} {held : Bool} {v : Value} {d : DataW H} {ps : List MemPlace} {bs : Nat}
    (hv : Value.okWide Try.prog W .any base 26 v) (h : DataW.Trod enc Try.prog W bs (fun _ => true) held 26 v d ps) :
    ∃ a len cap rl, v = .agg #[.slice a len cap] ∧ IsLine W a len cap rl := by
  obtain ⟨cs, rfl, hsz⟩ := okWide_struct Try.underlying26 hv
  rw [cellsLine] at hsz
  obtain ⟨l⟩ := cs
  match l, hsz with
  | [c0], _ =>
  obtain ⟨fuel, hf0⟩ := h
  obtain ⟨y0, m0, hx, _, hf⟩ := trod_struct1 Try.underlying26 hf0
  simp [Value.cells, cellsMsgS] at hf
  rcases Go.Deep.open_slice_pairs Try.underlying24 Try.underlying71 cellsRegion rfl rfl cells3 cells3 hf with ⟨hcs, _⟩ | ⟨x, len, c, m, k, V0, V1, D0, D1, P0, P1, hcs, _, hl, hm, hmm, _, hcell⟩
  · simp at hcs
    subst hcs
    exact ⟨none, 0, 0, [], rfl, rfl, Nat.le_refl _, by omega, by simp, fun h => by simp at h⟩
  · simp at hcs
    subst hcs
    simp at hmm
    subst hmm
    unfold maxLen at hm
    refine ⟨some x, len, _, (List.range len).map (fun i => (intOf (V0 i), intOf (V1 i))), rfl, by simp, hl, by omega, fun p hp => ?_, fun h0 => ?_⟩
    · obtain ⟨j, hj, rfl⟩ := List.mem_map.1 hp
      have hj' : j < len := by simpa using hj
      obtain ⟨h1, h2, h3, h4⟩ := hcell j (by omega)
      obtain ⟨z1, e1, _, w1⟩ := DataW.trod_int Try.underlying3 h4
      simp at e1
      show InI (intOf (V1 j))
      rw [e1]
      exact wf_in w1
    have h0' : 0 < len := by simpa using h0
    obtain ⟨b, off, spot⟩ := x
    have hspot : spot = none := by simpa [Addr.add] using World.cell?_spot (hcell 0 (by omega)).1
    subst hspot
    refine ⟨b, off, rfl, fun j hj => ?_⟩
    have hj' : j < len := by simpa using hj
    obtain ⟨h1, h2, h3, h4⟩ := hcell j (by omega)
    obtain ⟨z0, e0, _, _⟩ := DataW.trod_int Try.underlying3 h3
    obtain ⟨z1, e1, _, _⟩ := DataW.trod_int Try.underlying3 h4
    simp at e0 e1
    rw [add_at] at h1 h2
    rw [e0] at h1
    rw [e1] at h2
    refine ⟨?_, ?_⟩
    · rw [h1]; simp [e0, intOf]
    · rw [Nat.add_assoc, h2]; simp [e1, intOf]
end Go.Proofs.Ytacpoandikheeaa
