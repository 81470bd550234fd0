/-
  Proved: for every port the call of FnExactPortOk returns true: PortOk of the program answers as that of the specification, and it writes into no argument. No conditions.
-/
import Derived.Test.YtgkblgbpgheclaaRows
import Derived.Test.YtgkblgbpgheclaaPortI
import Derived.Test.YtgkblgbpgheclaaLine
import Derived.Test.YtgkblgbpgheclaaOpenP
import Derived.OpenShut
import Derived.ShutString
import Derived.ChangeOld
import Derived.Below
import Derived.OpenVars
import Derived.Deep.DeepHandedRow
namespace Go.Proofs.Ytgkblgbpgheclaa.fnExactPortOk
open Go.ChangeShapes Go.WideShapes Go.ChangeAt Go.RowKit Go.PlainAid
open Go.ChangeMaps (open_string shut_string)
set_option linter.unusedVariables false

theorem own : ownKnob Try.prog.godebug = none := by kernel_rfl
theorem laidOut : laidOutB Try.prog = true := by kernel_rfl

set_option maxRecDepth 100000 in
set_option maxHeartbeats 1000000 in
theorem walk (k f t m fr : Int) (w : World) :
    Calls Try.prog 6 #[.agg #[.int .i64 k, .int .i64 f, .int .i64 t, .int .i64 m, .int .i64 fr]] w fun e w' => e = .returned (.bool true) ∧ Below w.heap.size w w' := by
  obtain ⟨b, hB⟩ := port_bool k f t m fr
  have HPB : Hid (b = true ↔ PortR k f t m fr) := hB
  have HX : Hid (_ = _) := heap_new w (.cells #[.int .i64 k, .int .i64 f, .int .i64 t, .int .i64 m, .int .i64 fr] 38)
  have HW : Hid (Below w.heap.size w (w.alloc (.cells #[.int .i64 k, .int .i64 f, .int .i64 t, .int .i64 m, .int .i64 fr] 38))) := al1_b w _
  clear hB
  go_enter Try.func6, Try.ntmps6
  go_wp2_with fail
  refine (toP k f t m fr _).mono ?_
  rintro e w1 ⟨rfl, hb1⟩
  have HX1 : Hid (_ = _) := row_on HX.out hb1
  have HW1 : Hid (Below w.heap.size w w1) := bel_on (Nat.le_refl _) HW.out hb1
  clear hb1 HX HW
  go_wp2_with fail
  refine (portokS k f t m fr b HPB.out _).mono ?_
  rintro e w2 ⟨rfl, hb2⟩
  have HX2 : Hid (_ = _) := row_on HX1.out hb2
  have HW2 : Hid (Below w.heap.size w w2) := bel_on (Nat.le_refl _) HW1.out hb2
  clear hb2 HX1 HW1
  have kx := box5_cells HX2.out
  go_wp2_with fail
  clear kx HX2
  refine (toP k f t m fr _).mono ?_
  rintro e w3 ⟨rfl, hb3⟩
  have HW3 : Hid (Below w.heap.size w w3) := bel_on (Nat.le_refl _) HW2.out hb3
  clear hb3 HW2
  go_wp2_with fail
  refine (portokI k f t m fr b HPB.out _).mono ?_
  rintro e w4 ⟨rfl, hb4⟩
  have HW4 : Hid (Below w.heap.size w w4) := bel_on (Nat.le_refl _) HW3.out hb4
  clear hb4 HW3 HPB
  have hbb : (b != b) = false := by simp
  go_wp2
  go_ret
  exact ⟨rfl, HW4.out⟩

set_option maxRecDepth 100000 in
theorem lifted (os : Os) (started : os.Started) (H : Type) (enc : TypeId × Value → H) :
    ReturnsInHanded {} Try.checked os 6 .any (Rows.fnExactPortOkSpec.pre6 enc Try.prog Try.f6 Rows.fnExactPortOkRow.domain false) (Rows.fnExactPortOkSpec.post enc Try.prog Try.f6 false true false false) := by
  refine returnsInHanded_of_change (C := Try.checked) own started (by kernel_rfl) Try.func6
    (ChangeSpec.witness6 (enc := enc) (C := Try.checked) false ⟨#[], #[.agg #[.int .i64 0, .int .i64 0, .int .i64 0, .int .i64 0, .int .i64 0]], []⟩ 8 (by kernel_rfl) (by kernel_rfl) (by kernel_rfl) (by kernel_rfl)) ?_
  intro W base args ds gs before hval0 hW hcnd _
  have hval : ∀ (j : Nat) t v, Try.f6.params[j]? = some t → args[j]? = some v → Value.okWide Try.prog W .any base t v := hval0
  have hW' := hW
  obtain ⟨p, q, hA0, hV, rfl, hfz, hnd⟩ := hW
  have hA : DataW.TrodAll enc Try.prog W 0 (fun _ => true) true Try.f6.params.toList args.toList ds p := hA0
  rw [Try.params6] at hA hval
  obtain ⟨v0, vs0, d0, ds0, p0, q0, hargs, rfl, rfl, h0, r0⟩ := trodAll_cons hA
  obtain ⟨rfl, rfl, rfl⟩ := trodAll_nil r0
  obtain rfl : args = #[v0] := by cases args; simp_all
  obtain ⟨rfl, rfl⟩ := trodVars_none hV
  have k0 := h0
  have lt0 : ∀ x ∈ p0, x.block < W.heap.size := by obtain ⟨m, hm⟩ := k0; exact DataW.trod_lt m _ _ _ hm
  obtain ⟨k0p, f0p, t0p, m0p, fr0p, rfl⟩ := open_port (hval 0 38 v0 rfl rfl) h0
  clear hA0 hval0
  refine (walk k0p f0p t0p m0p fr0p W).mono fun e W' ⟨he, bel⟩ => ?_
  subst he
  exact ⟨_, rfl, _, _, _, [], _, [], hW', trodAll_mk1 (shut_bool Try.underlying4 _), (trodAll_cons_mk (Below.trod laidOut (by kernel_rfl) (of_decide_eq_true (by kernel_rfl)) k0 bel lt0) trodAll_mk0), rfl, bel.frame _, fun h => by cases h⟩

theorem over : Rows.fnExactPortOkRow.holds Try.pinned (OpenSpec.ofChange Rows.fnExactPortOkSpec) :=
  OpenClaim.holds_of_wide 6 Try.f6 rfl rfl rfl rfl rfl rfl rfl ⟨rfl, rfl, rfl, rfl, rfl⟩ rfl rfl rfl rfl rfl (by kernel_rfl) Try.func6 (by kernel_rfl)
    (of_decide_eq_true (by kernel_rfl)) (by unfold Func.isWrapper; first | (rw [if_pos (by decide +kernel)]; kernel_rfl) | (rw [if_neg (by decide +kernel)]; exact ⟨rfl, rfl⟩))
    (fun os started H enc _ => lifted os started H enc)

end Go.Proofs.Ytgkblgbpgheclaa.fnExactPortOk
namespace Go.Proofs.Ytgkblgbpgheclaa
theorem fnExactPortOk_holds : Rows.FnExactPortOkSaid :=
  fnExactPortOk.over
#print axioms fnExactPortOk_holds
end Go.Proofs.Ytgkblgbpgheclaa
