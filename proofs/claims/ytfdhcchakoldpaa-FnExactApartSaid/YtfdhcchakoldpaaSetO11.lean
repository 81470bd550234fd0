/-
  A set-up that came in: what a row's reading tells of it.
-/
import Derived.Test.YtfdhcchakoldpaaSet11
import Derived.OpenShut
import Derived.ChangeSame
import Derived.ChangeOld
namespace Go.Proofs.Ytfdhcchakoldpaa
open Go.ChangeShapes Go.WideShapes Go.ChangeAt Go.RowKit Go.PlainAid
set_option linter.unusedVariables false

theorem cellsSetup : Try.prog.cellsOf 80 = 5 := by kernel_rfl
/-- what the walk is told of a set-up that came in -/
structure IsSet (w : World) (s : SH) (X : SX) : Prop where
  rd : RdX w s X
  lim : LimX s X
  wf : WfU X.U
set_option maxRecDepth 100000 in
set_option maxHeartbeats 1000000 in
theorem open_setup {H : Type} {enc : TypeId × Value → H} {W : World} {base : Nat} {held : Bool} {v : Value} {d : DataW H} {ps : List MemPlace} {bs : Nat}
    (hv : Value.okWide Try.prog W .any base 80 v) (h : DataW.Trod enc Try.prog W bs (fun _ => true) held 80 v d ps) :
    ∃ s X, v = SetV s ∧ IsSet W s X := by
  obtain ⟨cs, rfl, hsz⟩ := okWide_struct Try.underlying80 hv
  rw [cellsSetup] at hsz
  obtain ⟨l⟩ := cs
  match l, hsz with
  | [c0, c1, c2, c3, c4], _ =>
  obtain ⟨fuel, hf⟩ := h
  obtain ⟨xs, n, _, _, hl, hlen, hg⟩ := DataW.trod_struct Try.underlying80 hf
  match xs, hlen with
  | [y0, y1, y2, y3, y4], _ =>
  have g0 := hg 0 _ rfl
  have g1 := hg 1 _ rfl
  have g2 := hg 2 _ rfl
  have g3 := hg 3 _ rfl
  have g4 := hg 4 _ rfl
  simp only [List.getElem?_cons_zero, List.getElem?_cons_succ] at g0 g1 g2 g3 g4
  obtain ⟨q0, n0, k0, x0, e0, a0, b0, m0, r0, _⟩ := openR11 (v := c0) g0
  obtain ⟨q1, n1, k1, x1, e1, a1, b1, m1, r1, _⟩ := openW11 (v := c1) g1
  obtain ⟨q2, n2, k2, x2, e2, a2, b2, m2, r2, _⟩ := openO11 (v := c2) g2
  obtain ⟨q3, n3, k3, x3, e3, a3, b3, m3, r3, w3⟩ := openU11 (v := c3) g3
  obtain ⟨q4, n4, k4, x4, e4, a4, b4, m4, r4, z4⟩ := S.openS (v := c4) g4
  subst e0 e1 e2 e3 e4
  exact ⟨⟨q0, n0, k0, q1, n1, k1, q2, n2, k2, q3, n3, k3, q4, n4, k4⟩, ⟨x0, x1, x2, x3, x4⟩, rfl, ⟨⟨a0, r0, a1, r1, a2, r2, a3, r3, a4, r4⟩, ⟨m0, m1, m2, m3, m4, z4⟩, w3⟩⟩
end Go.Proofs.Ytfdhcchakoldpaa
