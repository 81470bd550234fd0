/-
  Proved: the call of FnExactMenuNew returns true: MenuNew of the program answers as that of the specification. No conditions.
-/
import Derived.Test.YtjaimcmnndejgaaRows
import Derived.Test.YtjaimcmnndejgaaMnI
import Derived.Test.YtjaimcmnndejgaaOpenMn
import Derived.OpenShut
import Derived.ShutString
import Derived.ChangeOld
import Derived.Below
import Derived.OpenVars
import Derived.Deep.DeepHandedRow
namespace Go.Proofs.Ytjaimcmnndejgaa.fnExactMenuNew
open Go.ChangeShapes Go.WideShapes Go.ChangeAt Go.RowKit Go.PlainAid
open Go.ChangeMaps (open_string shut_string)
set_option linter.unusedVariables false

theorem own : ownKnob Try.prog.godebug = none := by kernel_rfl
theorem laidOut : laidOutB Try.prog = true := by kernel_rfl

set_option maxRecDepth 100000 in
set_option maxHeartbeats 4000000 in
theorem walk (w : World) : Calls Try.prog 6 #[] w fun e w' => e = .returned (.bool true) ∧ Below w.heap.size w w' := by
  go_enter Try.func6, Try.ntmps6
  go_wp2_with fail
  refine (menunewS _).mono ?_
  rintro e w1 ⟨rfl, hb1⟩
  have HB1 : Hid (Below w.heap.size w (w1.alloc (.cells #[.int .i64 1, .bool false, .int .i64 0, .int .i64 0, .string ⟨#[]⟩] 26))) := bel_on (Nat.le_refl _) hb1 (alM _ _)
  have HX1 : Hid ((w1.alloc (.cells #[.int .i64 1, .bool false, .int .i64 0, .int .i64 0, .string ⟨#[]⟩] 26)).heap[w1.heap.size]? = some (.cells #[.int .i64 1, .bool false, .int .i64 0, .int .i64 0, .string ⟨#[]⟩] 26)) := heap_new w1 _
  clear hb1
  unfold mnV newM
  dsimp only
  go_wp2_with fail
  refine (menunewI _).mono ?_
  rintro e w2 ⟨rfl, hb2⟩
  have HB2 : Hid (Below w.heap.size w (w2.alloc (.cells #[.int .i64 1, .bool false, .int .i64 0, .int .i64 0, .string ⟨#[]⟩] 26))) := bel_on (Nat.le_refl _) (bel_on (Nat.le_refl _) HB1.out hb2) (alM _ _)
  have HX2 : Hid ((w2.alloc (.cells #[.int .i64 1, .bool false, .int .i64 0, .int .i64 0, .string ⟨#[]⟩] 26)).heap[w1.heap.size]? = some (.cells #[.int .i64 1, .bool false, .int .i64 0, .int .i64 0, .string ⟨#[]⟩] 26)) := row_on (row_on HX1.out hb2) (alM _ _)
  have HY2 : Hid ((w2.alloc (.cells #[.int .i64 1, .bool false, .int .i64 0, .int .i64 0, .string ⟨#[]⟩] 26)).heap[w2.heap.size]? = some (.cells #[.int .i64 1, .bool false, .int .i64 0, .int .i64 0, .string ⟨#[]⟩] 26)) := heap_new w2 _
  have x2 := box5_cells HX2.out
  have y2 := box5_cells HY2.out
  clear hb2 HB1 HX1
  unfold mnV newM
  dsimp only
  go_wp2_with fail
  refine (eqMnu newM _).mono ?_
  rintro e w3 ⟨rfl, hb3⟩
  have HB3 : Hid (Below w.heap.size w w3) := bel_on (Nat.le_refl _) HB2.out hb3
  clear hb3 HB2 HX2 HY2 x2 y2
  go_wp2
  go_ret
  exact ⟨rfl, HB3.out⟩

set_option maxRecDepth 100000 in
theorem lifted (os : Os) (started : os.Started) (H : Type) (enc : TypeId × Value → H) :
    ReturnsInHanded {} Try.checked os 6 .any (Rows.fnExactMenuNewSpec.pre6 enc Try.prog Try.f6 Rows.fnExactMenuNewRow.domain false) (Rows.fnExactMenuNewSpec.post enc Try.prog Try.f6 false true false false) := by
  refine returnsInHanded_of_change (C := Try.checked) own started (by kernel_rfl) Try.func6
    (ChangeSpec.witness6 (enc := enc) (C := Try.checked) false ⟨#[], #[], []⟩ 8 (by kernel_rfl) (by kernel_rfl) (by kernel_rfl) (by kernel_rfl)) ?_
  intro W base args ds gs before hval0 hW hcnd _
  have hval : ∀ (j : Nat) t v, Try.f6.params[j]? = some t → args[j]? = some v → Value.okWide Try.prog W .any base t v := hval0
  have hW' := hW
  obtain ⟨p, q, hA0, hV, rfl, hfz, hnd⟩ := hW
  have hA : DataW.TrodAll enc Try.prog W 0 (fun _ => true) true Try.f6.params.toList args.toList ds p := hA0
  rw [Try.params6] at hA hval
  obtain ⟨hargs, rfl, rfl⟩ := trodAll_nil hA
  obtain rfl : args = #[] := by cases args; simp_all
  obtain ⟨rfl, rfl⟩ := trodVars_none hV
  clear hA0 hval0
  refine (walk W).mono fun e W' ⟨he, bel⟩ => ?_
  subst he
  exact ⟨_, rfl, _, _, _, [], _, [], hW', trodAll_mk1 (shut_bool Try.underlying4 _), trodAll_mk0, rfl, bel.frame _, fun h => by cases h⟩

theorem over : Rows.fnExactMenuNewRow.holds Try.pinned (OpenSpec.ofChange Rows.fnExactMenuNewSpec) :=
  OpenClaim.holds_of_wide 6 Try.f6 rfl rfl rfl rfl rfl rfl rfl ⟨rfl, rfl, rfl, rfl, rfl⟩ rfl rfl rfl rfl rfl (by kernel_rfl) Try.func6 (by kernel_rfl)
    (of_decide_eq_true (by kernel_rfl)) (by unfold Func.isWrapper; first | (rw [if_pos (by decide +kernel)]; kernel_rfl) | (rw [if_neg (by decide +kernel)]; exact ⟨rfl, rfl⟩))
    (fun os started H enc _ => lifted os started H enc)

end Go.Proofs.Ytjaimcmnndejgaa.fnExactMenuNew
namespace Go.Proofs.Ytjaimcmnndejgaa
theorem fnExactMenuNew_holds : Rows.FnExactMenuNewSaid :=
  fnExactMenuNew.over
#print axioms fnExactMenuNew_holds
end Go.Proofs.Ytjaimcmnndejgaa
