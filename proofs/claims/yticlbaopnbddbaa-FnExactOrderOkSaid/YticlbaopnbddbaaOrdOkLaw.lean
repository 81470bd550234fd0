/-
  Proved: for every order the call of FnExactOrderOk returns true: OrderOk of the program answers as that of the specification, and the argument reads as before. No conditions.
-/
import Derived.Test.YticlbaopnbddbaaRows
import Derived.Test.YticlbaopnbddbaaOrdK
import Derived.Test.YticlbaopnbddbaaOpenO
import Derived.OpenShut
import Derived.ShutString
import Derived.ChangeOld
import Derived.Below
import Derived.OpenVars
import Derived.Deep.DeepHandedRow
namespace Go.Proofs.Yticlbaopnbddbaa.fnExactOrderOk
open Go.ChangeShapes Go.WideShapes Go.ChangeAt Go.RowKit Go.PlainAid
open Go.ChangeMaps (open_string shut_string)
set_option linter.unusedVariables false

theorem own : ownKnob Try.prog.godebug = none := by kernel_rfl
theorem laidOut : laidOutB Try.prog = true := by kernel_rfl

theorem walk (k n d v : Int) (w : World) (_ : (Lit.int .i64 k).wf = true) (_ : (Lit.int .i64 n).wf = true) (_ : (Lit.int .i64 d).wf = true) (_ : (Lit.int .i64 v).wf = true) :
    Calls Try.prog 3 #[.agg #[.int .i64 k, .int .i64 n, .int .i64 d, .int .i64 v]] w fun e w' => e = .returned (.bool true) ∧ Below w.heap.size w w' := by
  obtain ⟨b, hb⟩ := ord_bool k n d v
  have HB0 : Hid (Below w.heap.size w (w.alloc (.cells #[.int .i64 k, .int .i64 n, .int .i64 d, .int .i64 v] 23))) := (Below.refl _ _).alloc (Nat.le_refl _) _
  have HK0 : Hid ((w.alloc (.cells #[.int .i64 k, .int .i64 n, .int .i64 d, .int .i64 v] 23)).heap[w.heap.size]? = some (.cells #[.int .i64 k, .int .i64 n, .int .i64 d, .int .i64 v] 23)) := heap_new w _
  have HR : Hid (b = true ↔ OrdR k n d v) := hb
  clear hb
  go_enter Try.func3, Try.ntmps3
  have k0 := box4_cells HK0.out
  go_wp2_with fail
  refine (toOrd k n d v _).mono ?_
  rintro e w1 ⟨rfl, hb1⟩
  have HB1 : Hid (Below w.heap.size w w1) := bel_on (Nat.le_refl _) HB0.out hb1
  have HK1 : Hid (w1.heap[w.heap.size]? = some (.cells #[.int .i64 k, .int .i64 n, .int .i64 d, .int .i64 v] 23)) := row_on HK0.out hb1
  clear hb1 HB0 HK0 k0
  go_wp2_with fail
  refine (ordokS k n d v b HR.out _).mono ?_
  rintro e w2 ⟨rfl, hb2⟩
  have HB2 : Hid (Below w.heap.size w w2) := bel_on (Nat.le_refl _) HB1.out hb2
  have HK2 : Hid (w2.heap[w.heap.size]? = some (.cells #[.int .i64 k, .int .i64 n, .int .i64 d, .int .i64 v] 23)) := row_on HK1.out hb2
  clear hb2 HB1 HK1
  have k2 := box4_cells HK2.out
  go_wp2_with fail
  refine (toOrd k n d v _).mono ?_
  rintro e w3 ⟨rfl, hb3⟩
  have HB3 : Hid (Below w.heap.size w w3) := bel_on (Nat.le_refl _) HB2.out hb3
  clear hb3 HB2 HK2 k2
  go_wp2_with fail
  refine (ordokI k n d v b HR.out _).mono ?_
  rintro e w4 ⟨rfl, hb4⟩
  have HB4 : Hid (Below w.heap.size w w4) := bel_on (Nat.le_refl _) HB3.out hb4
  clear hb4 HB3
  go_wp2
  go_ret
  exact ⟨by simp, HB4.out⟩

set_option maxRecDepth 100000 in
theorem lifted (os : Os) (started : os.Started) (H : Type) (enc : TypeId × Value → H) :
    ReturnsInHanded {} Try.checked os 3 .any (Rows.fnExactOrderOkSpec.pre6 enc Try.prog Try.f3 Rows.fnExactOrderOkRow.domain false) (Rows.fnExactOrderOkSpec.post enc Try.prog Try.f3 false true false false) := by
  refine returnsInHanded_of_change (C := Try.checked) own started (by kernel_rfl) Try.func3
    (ChangeSpec.witness6 (enc := enc) (C := Try.checked) false ⟨#[], #[.agg #[.int .i64 0, .int .i64 0, .int .i64 0, .int .i64 0]], []⟩ 8 (by kernel_rfl) (by kernel_rfl) (by kernel_rfl) (by kernel_rfl)) ?_
  intro W base args ds gs before hval0 hW hcnd _
  have hval : ∀ (j : Nat) t v, Try.f3.params[j]? = some t → args[j]? = some v → Value.okWide Try.prog W .any base t v := hval0
  have hW' := hW
  obtain ⟨p, q, hA0, hV, rfl, hfz, hnd⟩ := hW
  have hA : DataW.TrodAll enc Try.prog W 0 (fun _ => true) true Try.f3.params.toList args.toList ds p := hA0
  rw [Try.params3] at hA hval
  obtain ⟨v0, vs0, d0, ds0, p0, q0, hargs, rfl, rfl, h0, r0⟩ := trodAll_cons hA
  obtain ⟨rfl, rfl, rfl⟩ := trodAll_nil r0
  obtain rfl : args = #[v0] := by cases args; simp_all
  obtain ⟨rfl, rfl⟩ := trodVars_none hV
  have k0 := h0
  have lt0 : ∀ x ∈ p0, x.block < W.heap.size := by obtain ⟨m, hm⟩ := k0; exact DataW.trod_lt m _ _ _ hm
  obtain ⟨k0o, n0o, d0o, v0o, rfl, wk0o, wn0o, wd0o, wv0o⟩ := open_order (hval 0 23 v0 rfl rfl) h0
  clear hA0 hval0
  refine (walk k0o n0o d0o v0o W wk0o wn0o wd0o wv0o).mono fun e W' ⟨he, bel⟩ => ?_
  subst he
  exact ⟨_, rfl, _, _, _, [], _, [], hW', trodAll_mk1 (shut_bool Try.underlying4 _), (trodAll_cons_mk (Below.trod laidOut (by kernel_rfl) (of_decide_eq_true (by kernel_rfl)) k0 bel lt0) trodAll_mk0), rfl, bel.frame _, fun h => by cases h⟩

theorem over : Rows.fnExactOrderOkRow.holds Try.pinned (OpenSpec.ofChange Rows.fnExactOrderOkSpec) :=
  OpenClaim.holds_of_wide 3 Try.f3 rfl rfl rfl rfl rfl rfl rfl ⟨rfl, rfl, rfl, rfl, rfl⟩ rfl rfl rfl rfl rfl (by kernel_rfl) Try.func3 (by kernel_rfl)
    (of_decide_eq_true (by kernel_rfl)) (by unfold Func.isWrapper; first | (rw [if_pos (by decide +kernel)]; kernel_rfl) | (rw [if_neg (by decide +kernel)]; exact ⟨rfl, rfl⟩))
    (fun os started H enc _ => lifted os started H enc)

end Go.Proofs.Yticlbaopnbddbaa.fnExactOrderOk
namespace Go.Proofs.Yticlbaopnbddbaa
theorem fnExactOrderOk_holds : Rows.FnExactOrderOkSaid :=
  fnExactOrderOk.over
#print axioms fnExactOrderOk_holds
end Go.Proofs.Yticlbaopnbddbaa
