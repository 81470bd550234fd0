/-
  An order that came in, opened; made an order of the program; two compared.
-/
import Derived.Test.YtpjnmkijndmemaaOrd
import Derived.Deep.Strs
import Derived.OpenShut
import Derived.ChangeSame
import Derived.ChangeOld
namespace Go.Proofs.Ytpjnmkijndmemaa
open Go.ChangeShapes Go.WideShapes Go.ChangeAt Go.RowKit Go.Deep Go.PlainAid
set_option linter.unusedVariables false

theorem cells3o : Try.prog.cellsOf 3 = 1 := by kernel_rfl
theorem cellsOrd : Try.prog.cellsOf 48 = 4 := by kernel_rfl
theorem open_order {H : Type} {enc : TypeId × Value → H} {W : World} {base : Nat} {held : Bool} {v : Value} {d : DataW H} {ps : List MemPlace} {bs : Nat}
    (hv : Value.okWide Try.prog W .any base 48 v) (h : DataW.Trod enc Try.prog W bs (fun _ => true) held 48 v d ps) :
    ∃ k n d v' : Int, v = .agg #[.int .i64 k, .int .i64 n, .int .i64 d, .int .i64 v'] ∧ (Lit.int .i64 k).wf = true ∧ (Lit.int .i64 n).wf = true ∧ (Lit.int .i64 d).wf = true ∧ (Lit.int .i64 v').wf = true := by
  obtain ⟨cs, rfl, hsz⟩ := okWide_struct Try.underlying48 hv
  rw [cellsOrd] at hsz
  obtain ⟨l⟩ := cs
  match l, hsz with
  | [c0, c1, c2, c3], _ =>
  obtain ⟨fuel, hf⟩ := h
  obtain ⟨xs, kk, hk, hxy, _, hxl, hf⟩ := DataW.trod_struct Try.underlying48 hf
  match xs, hxl with
  | [y0, y1, y2, y3], _ =>
    have g0 := hf 0 _ rfl
    have g1 := hf 1 _ rfl
    have g2 := hf 2 _ rfl
    have g3 := hf 3 _ rfl
    simp [Value.cells, cells3o] at g0 g1 g2 g3
    obtain ⟨z0, q0, _, u0⟩ := DataW.trod_int Try.underlying3 g0
    obtain ⟨z1, q1, _, u1⟩ := DataW.trod_int Try.underlying3 g1
    obtain ⟨z2, q2, _, u2⟩ := DataW.trod_int Try.underlying3 g2
    obtain ⟨z3, q3, _, u3⟩ := DataW.trod_int Try.underlying3 g3
    simp at q0 q1 q2 q3
    subst q0 q1 q2 q3
    exact ⟨z0, z1, z2, z3, rfl, u0, u1, u2, u3⟩
set_option maxRecDepth 100000 in
set_option maxHeartbeats 1000000 in
theorem toOrd (k n d v : Int) (w : World) : Calls Try.prog 29 #[.agg #[.int .i64 k, .int .i64 n, .int .i64 d, .int .i64 v]] w fun e w' => e = .returned (ordV k n d v) ∧ Below w.heap.size w w' := by
  go_enter Try.func29, Try.ntmps29
  go_wp2
  refine bodyPost_ret (v := .agg #[.int .i64 k, .int .i64 n, .int .i64 d, .int .i64 v]) (by simp [results, Try.results29, go_sem]) rfl ⟨rfl, ?_⟩
  exact (((Below.refl _ _).alloc (Nat.le_refl _) _).alloc (by simp) _).alloc (by simp; omega) _
end Go.Proofs.Ytpjnmkijndmemaa
