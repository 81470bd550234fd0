/-
  The exact law of StepRate.
-/
import Derived.Test.YtcjidlbpkijmnamRows
import Derived.Test.YtcjidlbpkijmnamOpen
import Derived.OpenShut
import Derived.ShutString
import Derived.ChangeOld
import Derived.Below
namespace Go.Proofs.Ytcjidlbpkijmnam.fnExactStepRate
open Go.ChangeShapes Go.WideShapes Go.ChangeAt Go.RowKit
open Go.ChangeMaps (open_string shut_string)
set_option linter.unusedVariables false

theorem own : ownKnob Try.prog.godebug = none := by kernel_rfl

theorem walk (a b c : Int) (wa : (Lit.int .i64 a).wf = true) (wb : (Lit.int .i64 b).wf = true) (wc : (Lit.int .i64 c).wf = true) (W : World) :
    Calls Try.prog 6 #[.agg #[.int .i64 a, .int .i64 b, .int .i64 c]] W fun e w' => e = .returned (.bool true) ∧ Below W.heap.size W w' := by
  have ht := to13 a b c
  have hs := sstep15 a b c
  have hp := step16 a b c
  obtain ⟨R, HR⟩ : ∃ R, Hid (stepR a b c = R) := ⟨_, rfl⟩
  obtain ⟨O, HO⟩ : ∃ O, Hid (stepO a b c = O) := ⟨_, rfl⟩
  rw [HR.out, HO.out] at hs hp
  have he := eq17 a b R
  unfold rateV at ht hs hp he
  have hb0 : Below W.heap.size W (W.alloc (.cells #[.int .i64 a, .int .i64 b, .int .i64 c] 25)) := (Below.refl _ _).alloc (Nat.le_refl _) _
  have hh := heap_new W (.cells #[.int .i64 a, .int .i64 b, .int .i64 c] 25)
  go_enter Try.func6, Try.ntmps6
  go_wp2_with fail
  refine (ht _).mono ?_
  rintro e w1 ⟨rfl, hb1⟩
  have hh1 := row3_after hh hb1
  have bel1 := hb0.trans (hb1.mono hb0.size)
  clear hb0 hb1 hh
  go_wp2_with fail
  refine (hs _).mono ?_
  rintro e w2 ⟨rfl, hb2⟩
  have hh2 := row3_after hh1 hb2
  have bel2 := bel1.trans (hb2.mono bel1.size)
  clear hb2 hh1 bel1
  have l2 := row_lt hh2
  have hA2 := (Below.heap_alloc w2 (.cells #[.int .i64 a, .int .i64 b, .int .i64 R] 27) _ l2).trans hh2
  have hS2 := heap_new w2 (.cells #[.int .i64 a, .int .i64 b, .int .i64 R] 27)
  have belA := bel2.alloc bel2.size (.cells #[.int .i64 a, .int .i64 b, .int .i64 R] 27)
  have k2 := row3_cells hA2
  clear hh2 bel2
  go_wp2_with fail
  refine (ht _).mono ?_
  rintro e w3 ⟨rfl, hb3⟩
  have hS3 := row3_after hS2 hb3
  have bel3 := belA.trans (hb3.mono belA.size)
  clear hb3 belA hA2 hS2 k2
  go_wp2_with fail
  refine (hp _).mono ?_
  rintro e w4 ⟨rfl, hb4⟩
  have hS4 := row3_after hS3 hb4
  have bel4 := bel3.trans (hb4.mono bel3.size)
  clear hb4 bel3 ht hs hp hS3
  have l4 := row_lt hS4
  have k4 := row3_cells ((Below.heap_alloc w4 (.cells #[.int .i64 a, .int .i64 b, .int .i64 R] 27) _ l4).trans hS4)
  have bel5 := bel4.alloc bel4.size (.cells #[.int .i64 a, .int .i64 b, .int .i64 R] 27)
  clear hS4 bel4
  go_wp2_with fail
  refine (he _).mono ?_
  rintro e w6 ⟨rfl, hb6⟩
  have bel6 := bel5.trans (hb6.mono bel5.size)
  clear hb6 bel5 k4 he
  go_wp2
  go_ret
  exact ⟨rfl, bel6⟩

set_option maxRecDepth 100000 in
theorem lifted (os : Os) (started : os.Started) (H : Type) (enc : TypeId × Value → H) :
    ReturnsInHanded {} Try.checked os 6 .any (Rows.fnExactStepRateSpec.pre6 enc Try.prog Try.f6 Rows.fnExactStepRateRow.domain false) (Rows.fnExactStepRateSpec.post enc Try.prog Try.f6 false true false false) := by
  refine returnsInHanded_of_change (C := Try.checked) own started (by kernel_rfl) Try.func6
    (ChangeSpec.witness6 (enc := enc) (C := Try.checked) false ⟨#[], #[.agg #[.int .i64 0, .int .i64 0, .int .i64 0]], []⟩ 8 (by kernel_rfl) (by kernel_rfl) (by kernel_rfl) (by kernel_rfl)) ?_
  intro W base args ds gs before hval0 hW hcnd _
  have hval : ∀ (j : Nat) t v, Try.f6.params[j]? = some t → args[j]? = some v → Value.okWide Try.prog W .any base t v := hval0
  have hW' := hW
  obtain ⟨p, q, hA0, hV, rfl, hfz, hnd⟩ := hW
  have hA : DataW.TrodAll enc Try.prog W 0 (fun _ => true) true Try.f6.params.toList args.toList ds p := hA0
  rw [Try.params6] at hA hval
  obtain ⟨v0, vs0, d0, ds0, p0, q0, hargs, rfl, rfl, h0, r0⟩ := trodAll_cons hA
  obtain ⟨rfl, rfl, rfl⟩ := trodAll_nil r0
  obtain rfl : args = #[v0] := by cases args; simp_all
  obtain ⟨rfl, rfl⟩ := trodVars_none hV
  obtain ⟨a0, b0, c0, rfl, rfl, rfl, wa0, wb0, wc0⟩ := open_rate (hval 0 25 v0 rfl rfl) h0
  clear hA0 hval0
  refine (walk a0 b0 c0 wa0 wb0 wc0 W).mono fun e W' ⟨he, bel⟩ => ?_
  subst he
  exact ⟨_, rfl, _, _, _, [], _, [], hW', trodAll_mk1 (shut_bool Try.underlying4 _), (trodAll_cons_mk (shut_rate wa0 wb0 wc0) trodAll_mk0), rfl, bel.frame _, fun h => by cases h⟩

theorem over : Rows.fnExactStepRateRow.holds Try.pinned (OpenSpec.ofChange Rows.fnExactStepRateSpec) :=
  OpenClaim.holds_of_wide 6 Try.f6 rfl rfl rfl rfl rfl rfl rfl ⟨rfl, rfl, rfl, rfl, rfl⟩ rfl rfl rfl rfl rfl (by kernel_rfl) Try.func6 (by kernel_rfl)
    (of_decide_eq_true (by kernel_rfl)) (by unfold Func.isWrapper; first | (rw [if_pos (by decide +kernel)]; kernel_rfl) | (rw [if_neg (by decide +kernel)]; exact ⟨rfl, rfl⟩))
    (fun os started H enc _ => lifted os started H enc)

end Go.Proofs.Ytcjidlbpkijmnam.fnExactStepRate
namespace Go.Proofs.Ytcjidlbpkijmnam
theorem fnExactStepRate_holds : Rows.FnExactStepRateSaid :=
  fnExactStepRate.over
#print axioms fnExactStepRate_holds
end Go.Proofs.Ytcjidlbpkijmnam
