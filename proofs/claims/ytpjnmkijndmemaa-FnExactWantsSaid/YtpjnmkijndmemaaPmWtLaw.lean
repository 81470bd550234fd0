/-
  Proved: for every pump the call of FnExactWants returns true: Wants of the program answers as that of the specification, and the argument reads as before. No conditions.
-/
import Derived.Test.YtpjnmkijndmemaaRows
import Derived.Test.YtpjnmkijndmemaaOpenPm
import Derived.Test.YtpjnmkijndmemaaPmI
import Derived.OpenShut
import Derived.ShutString
import Derived.ChangeOld
import Derived.Below
import Derived.OpenVars
import Derived.Deep.DeepHandedRow
namespace Go.Proofs.Ytpjnmkijndmemaa.fnExactWants
open Go.ChangeShapes Go.WideShapes Go.ChangeAt Go.RowKit Go.PlainAid
open Go.ChangeMaps (open_string shut_string)
set_option linter.unusedVariables false

theorem own : ownKnob Try.prog.godebug = none := by kernel_rfl
theorem laidOut : laidOutB Try.prog = true := by kernel_rfl

set_option maxRecDepth 100000 in
set_option maxHeartbeats 2000000 in
theorem walk (p : Pm) (w : World) :
    Calls Try.prog 11 #[p.V] w fun e w' => e = .returned (.bool true) ∧ Below w.heap.size w w' := by
  obtain ⟨s, n, d, r, l, b, g, k⟩ := p
  obtain ⟨W, hW⟩ : ∃ W, Pm.wants ⟨s, n, d, r, l, b, g, k⟩ = W := ⟨_, rfl⟩
  have KS : Hid (∀ w, Calls Try.prog 23 #[.agg #[.int .i64 s, .int .i64 n, .int .i64 d, .int .i64 r, .int .i64 l, .int .i64 b, .int .i64 g, .int .i64 k]] w fun e w' => e = .returned (.int .i64 W) ∧ Below w.heap.size w w') := fun w => by rw [← hW]; exact wantsS ⟨s, n, d, r, l, b, g, k⟩ w
  have KI : Hid (∀ w, Calls Try.prog 22 #[.agg #[.int .i64 s, .int .i64 n, .int .i64 d, .int .i64 r, .int .i64 l, .int .i64 b, .int .i64 g, .int .i64 k]] w fun e w' => e = .returned (.int .i64 W) ∧ Below w.heap.size w w') := fun w => by rw [← hW]; exact wantsI ⟨s, n, d, r, l, b, g, k⟩ w
  have HB0 : Hid (Below w.heap.size w (w.alloc (.cells #[.int .i64 s, .int .i64 n, .int .i64 d, .int .i64 r, .int .i64 l, .int .i64 b, .int .i64 g, .int .i64 k] 45))) := alP _ _
  have HL0 : Hid ((w.alloc (.cells #[.int .i64 s, .int .i64 n, .int .i64 d, .int .i64 r, .int .i64 l, .int .i64 b, .int .i64 g, .int .i64 k] 45)).heap[w.heap.size]? = some (.cells #[.int .i64 s, .int .i64 n, .int .i64 d, .int .i64 r, .int .i64 l, .int .i64 b, .int .i64 g, .int .i64 k] 45)) := heap_new w _
  have q0 := box8_cells HL0.out
  have KT : Hid (∀ w, Calls Try.prog 28 #[.agg #[.int .i64 s, .int .i64 n, .int .i64 d, .int .i64 r, .int .i64 l, .int .i64 b, .int .i64 g, .int .i64 k]] w fun e w' => e = .returned (.agg #[.int .i64 s, .int .i64 n, .int .i64 d, .int .i64 r, .int .i64 l, .int .i64 b, .int .i64 g, .int .i64 k]) ∧ Below w.heap.size w w') := fun w => toPmp ⟨s, n, d, r, l, b, g, k⟩ w
  show Calls Try.prog 11 #[.agg #[.int .i64 s, .int .i64 n, .int .i64 d, .int .i64 r, .int .i64 l, .int .i64 b, .int .i64 g, .int .i64 k]] w fun e w' => e = .returned (.bool true) ∧ Below w.heap.size w w'
  go_enter Try.func11, Try.ntmps11
  go_wp2_with fail
  refine Calls.mono (KT.out _) ?_
  rintro e w1 ⟨rfl, hb1⟩
  have HB1 : Hid (Below w.heap.size w w1) := bel_on (Nat.le_refl _) HB0.out hb1
  have HL1 : Hid (w1.heap[w.heap.size]? = some (.cells #[.int .i64 s, .int .i64 n, .int .i64 d, .int .i64 r, .int .i64 l, .int .i64 b, .int .i64 g, .int .i64 k] 45)) := row_on HL0.out hb1
  have q1 := box8_cells HL1.out
  clear hb1 HB0 HL0 q0
  go_wp2_with fail
  refine Calls.mono (KS.out _) ?_
  rintro e w2 ⟨rfl, hb2⟩
  have HB2 : Hid (Below w.heap.size w w2) := bel_on (Nat.le_refl _) HB1.out hb2
  have HL2 : Hid (w2.heap[w.heap.size]? = some (.cells #[.int .i64 s, .int .i64 n, .int .i64 d, .int .i64 r, .int .i64 l, .int .i64 b, .int .i64 g, .int .i64 k] 45)) := row_on HL1.out hb2
  have q2 := box8_cells HL2.out
  clear hb2 HB1 HL1 q1
  go_wp2_with fail
  refine Calls.mono (KT.out _) ?_
  rintro e w3 ⟨rfl, hb3⟩
  have HB3 : Hid (Below w.heap.size w w3) := bel_on (Nat.le_refl _) HB2.out hb3
  have HL3 : Hid (w3.heap[w.heap.size]? = some (.cells #[.int .i64 s, .int .i64 n, .int .i64 d, .int .i64 r, .int .i64 l, .int .i64 b, .int .i64 g, .int .i64 k] 45)) := row_on HL2.out hb3
  have q3 := box8_cells HL3.out
  clear hb3 HB2 HL2 q2
  go_wp2_with fail
  refine Calls.mono (KI.out _) ?_
  rintro e w4 ⟨rfl, hb4⟩
  have HB4 : Hid (Below w.heap.size w w4) := bel_on (Nat.le_refl _) HB3.out hb4
  have HL4 : Hid (w4.heap[w.heap.size]? = some (.cells #[.int .i64 s, .int .i64 n, .int .i64 d, .int .i64 r, .int .i64 l, .int .i64 b, .int .i64 g, .int .i64 k] 45)) := row_on HL3.out hb4
  have q4 := box8_cells HL4.out
  clear hb4 HB3 HL3 q3
  go_wp2
  go_ret
  exact ⟨by simp, HB4.out⟩

set_option maxRecDepth 100000 in
theorem lifted (os : Os) (started : os.Started) (H : Type) (enc : TypeId × Value → H) :
    ReturnsInHanded {} Try.checked os 11 .any (Rows.fnExactWantsSpec.pre6 enc Try.prog Try.f11 Rows.fnExactWantsRow.domain false) (Rows.fnExactWantsSpec.post enc Try.prog Try.f11 false true false false) := by
  refine returnsInHanded_of_change (C := Try.checked) own started (by kernel_rfl) Try.func11
    (ChangeSpec.witness6 (enc := enc) (C := Try.checked) false ⟨#[], #[.agg #[.int .i64 0, .int .i64 0, .int .i64 0, .int .i64 0, .int .i64 0, .int .i64 0, .int .i64 0, .int .i64 0]], []⟩ 8 (by kernel_rfl) (by kernel_rfl) (by kernel_rfl) (by kernel_rfl)) ?_
  intro W base args ds gs before hval0 hW hcnd _
  have hval : ∀ (j : Nat) t v, Try.f11.params[j]? = some t → args[j]? = some v → Value.okWide Try.prog W .any base t v := hval0
  have hW' := hW
  obtain ⟨p, q, hA0, hV, rfl, hfz, hnd⟩ := hW
  have hA : DataW.TrodAll enc Try.prog W 0 (fun _ => true) true Try.f11.params.toList args.toList ds p := hA0
  rw [Try.params11] at hA hval
  obtain ⟨v0, vs0, d0, ds0, p0, q0, hargs, rfl, rfl, h0, r0⟩ := trodAll_cons hA
  obtain ⟨rfl, rfl, rfl⟩ := trodAll_nil r0
  obtain rfl : args = #[v0] := by cases args; simp_all
  obtain ⟨rfl, rfl⟩ := trodVars_none hV
  have k0 := h0
  have lt0 : ∀ x ∈ p0, x.block < W.heap.size := by obtain ⟨m, hm⟩ := k0; exact DataW.trod_lt m _ _ _ hm
  obtain ⟨p0m, rfl⟩ := open_pump (hval 0 45 v0 rfl rfl) h0
  clear hA0 hval0
  refine (walk p0m W).mono fun e W' ⟨he, bel⟩ => ?_
  subst he
  exact ⟨_, rfl, _, _, _, [], _, [], hW', trodAll_mk1 (shut_bool Try.underlying4 _), (trodAll_cons_mk (Below.trod laidOut (by kernel_rfl) (of_decide_eq_true (by kernel_rfl)) k0 bel lt0) trodAll_mk0), rfl, bel.frame _, fun h => by cases h⟩

theorem over : Rows.fnExactWantsRow.holds Try.pinned (OpenSpec.ofChange Rows.fnExactWantsSpec) :=
  OpenClaim.holds_of_wide 11 Try.f11 rfl rfl rfl rfl rfl rfl rfl ⟨rfl, rfl, rfl, rfl, rfl⟩ rfl rfl rfl rfl rfl (by kernel_rfl) Try.func11 (by kernel_rfl)
    (of_decide_eq_true (by kernel_rfl)) (by unfold Func.isWrapper; first | (rw [if_pos (by decide +kernel)]; kernel_rfl) | (rw [if_neg (by decide +kernel)]; exact ⟨rfl, rfl⟩))
    (fun os started H enc _ => lifted os started H enc)

end Go.Proofs.Ytpjnmkijndmemaa.fnExactWants
namespace Go.Proofs.Ytpjnmkijndmemaa
theorem fnExactWants_holds : Rows.FnExactWantsSaid :=
  fnExactWants.over
#print axioms fnExactWants_holds
end Go.Proofs.Ytpjnmkijndmemaa
