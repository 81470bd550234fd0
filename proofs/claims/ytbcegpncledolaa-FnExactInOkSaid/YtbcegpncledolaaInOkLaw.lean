/-
  Proved: at every argument the call of FnExactInOk returns true: InOk of the program answers as that of the specification; the argument reads as before. No conditions.
-/
import Derived.Test.YtbcegpncledolaaRows
import Derived.Test.YtbcegpncledolaaInI
import Derived.OpenShut
import Derived.ShutString
import Derived.ChangeOld
import Derived.Below
import Derived.OpenVars
import Derived.Deep.DeepHandedRow
namespace Go.Proofs.Ytbcegpncledolaa.fnExactInOk
open Go.ChangeShapes Go.WideShapes Go.ChangeAt Go.RowKit Go.PlainAid
open Go.ChangeMaps (open_string shut_string)
set_option linter.unusedVariables false

theorem own : ownKnob Try.prog.godebug = none := by kernel_rfl
theorem laidOut : laidOutB Try.prog = true := by kernel_rfl

set_option maxRecDepth 100000 in
set_option maxHeartbeats 2000000 in
theorem walk (b : Int) (K L : ByteArray) (w : World) (hk : K.size ≤ maxLen) (hl : L.size ≤ maxLen) :
    Calls Try.prog 3 #[.agg #[.int .i64 b, .string K, .string L]] w fun e w' => e = .returned (.bool true) ∧ Below w.heap.size w w' := by
  have hk' : K.size ≤ 9223372036854775807 := by unfold maxLen at hk; omega
  have hl' : L.size ≤ 9223372036854775807 := by unfold maxLen at hl; omega
  have HB0 : Hid (Below w.heap.size w (w.alloc (.cells #[.int .i64 b, .string K, .string L] 23))) := alI _ _
  have HK0 : Hid ((w.alloc (.cells #[.int .i64 b, .string K, .string L] 23)).heap[w.heap.size]? = some (.cells #[.int .i64 b, .string K, .string L] 23)) := heap_new w _
  obtain ⟨B, hB⟩ : ∃ B, decide ((0 ≤ b ∧ b ≤ 15) ∧ K.size ≤ 20 ∧ L.size ≤ 40) = B := ⟨_, rfl⟩
  have HB : Hid (decide ((0 ≤ b ∧ b ≤ 15) ∧ K.size ≤ 20 ∧ L.size ≤ 40) = B) := hB
  obtain ⟨x, hx⟩ : ∃ x, leftI K.size L.size = x := ⟨_, rfl⟩
  have HX : Hid (leftI K.size L.size = x) := hx
  clear hB hx hk hl
  have k0 := box3i_cells HK0.out
  go_enter Try.func3, Try.ntmps3
  go_wp2_with fail
  refine (szIn b K L hk' hl' _).mono ?_
  rintro e w1 ⟨rfl, hb1⟩
  rw [HX.out]
  have HB1 : Hid (Below w.heap.size w w1) := bel_on (Nat.le_refl _) HB0.out hb1
  have HK1 : Hid (w1.heap[w.heap.size]? = some (.cells #[.int .i64 b, .string K, .string L] 23)) := row_on HK0.out hb1
  clear hb1 HB0 HK0 k0 HX hk' hl'
  have k1 := box3i_cells HK1.out
  by_cases h0 : x < 0
  · go_wp2
    go_ret
    exact ⟨rfl, HB1.out⟩
  go_wp2_with fail
  refine (toIn b K L _).mono ?_
  rintro e w2 ⟨rfl, hb1⟩
  have HB2 : Hid (Below w.heap.size w w2) := bel_on (Nat.le_refl _) HB1.out hb1
  have HK2 : Hid (w2.heap[w.heap.size]? = some (.cells #[.int .i64 b, .string K, .string L] 23)) := row_on HK1.out hb1
  clear hb1 HB1 HK1 k1
  go_wp2_with fail
  refine (inokS b K L B HB.out _).mono ?_
  rintro e w3 ⟨rfl, hb1⟩
  have HB3 : Hid (Below w.heap.size w w3) := bel_on (Nat.le_refl _) HB2.out hb1
  have HK3 : Hid (w3.heap[w.heap.size]? = some (.cells #[.int .i64 b, .string K, .string L] 23)) := row_on HK2.out hb1
  clear hb1 HB2 HK2
  have k3 := box3i_cells HK3.out
  go_wp2_with fail
  refine (toIn b K L _).mono ?_
  rintro e w4 ⟨rfl, hb1⟩
  have HB4 : Hid (Below w.heap.size w w4) := bel_on (Nat.le_refl _) HB3.out hb1
  clear hb1 HB3 HK3 k3
  go_wp2_with fail
  refine (inokI b K L B HB.out _).mono ?_
  rintro e w5 ⟨rfl, hb1⟩
  have HB5 : Hid (Below w.heap.size w w5) := bel_on (Nat.le_refl _) HB4.out hb1
  clear hb1 HB4
  go_wp2
  go_ret
  exact ⟨by cases B <;> rfl, HB5.out⟩

set_option maxRecDepth 100000 in
theorem lifted (os : Os) (started : os.Started) (H : Type) (enc : TypeId × Value → H) :
    ReturnsInHanded {} Try.checked os 3 .any (Rows.fnExactInOkSpec.pre6 enc Try.prog Try.f3 Rows.fnExactInOkRow.domain false) (Rows.fnExactInOkSpec.post enc Try.prog Try.f3 false true false false) := by
  refine returnsInHanded_of_change (C := Try.checked) own started (by kernel_rfl) Try.func3
    (ChangeSpec.witness6 (enc := enc) (C := Try.checked) false ⟨#[], #[.agg #[.int .i64 0, .string ⟨#[]⟩, .string ⟨#[]⟩]], []⟩ 8 (by kernel_rfl) (by kernel_rfl) (by kernel_rfl) (by kernel_rfl)) ?_
  intro W base args ds gs before hval0 hW hcnd _
  have hval : ∀ (j : Nat) t v, Try.f3.params[j]? = some t → args[j]? = some v → Value.okWide Try.prog W .any base t v := hval0
  have hW' := hW
  obtain ⟨p, q, hA0, hV, rfl, hfz, hnd⟩ := hW
  have hA : DataW.TrodAll enc Try.prog W 0 (fun _ => true) true Try.f3.params.toList args.toList ds p := hA0
  rw [Try.params3] at hA hval
  obtain ⟨v0, vs0, d0, ds0, p0, q0, hargs, rfl, rfl, h0, r0⟩ := trodAll_cons hA
  obtain ⟨rfl, rfl, rfl⟩ := trodAll_nil r0
  obtain rfl : args = #[v0] := by cases args; simp_all
  obtain ⟨rfl, rfl⟩ := trodVars_none hV
  have k0 := h0
  have lt0 : ∀ x ∈ p0, x.block < W.heap.size := by obtain ⟨m, hm⟩ := k0; exact DataW.trod_lt m _ _ _ hm
  obtain ⟨b0e, K0e, L0e, rfl, wK0, wL0⟩ := open_in (hval 0 23 v0 rfl rfl) h0
  clear hA0 hval0
  refine (walk b0e K0e L0e W wK0 wL0).mono fun e W' ⟨he, bel⟩ => ?_
  subst he
  exact ⟨_, rfl, _, _, _, [], _, [], hW', trodAll_mk1 (shut_bool Try.underlying4 _), (trodAll_cons_mk (Below.trod laidOut (by kernel_rfl) (of_decide_eq_true (by kernel_rfl)) k0 bel lt0) trodAll_mk0), rfl, bel.frame _, fun h => by cases h⟩

theorem over : Rows.fnExactInOkRow.holds Try.pinned (OpenSpec.ofChange Rows.fnExactInOkSpec) :=
  OpenClaim.holds_of_wide 3 Try.f3 rfl rfl rfl rfl rfl rfl rfl ⟨rfl, rfl, rfl, rfl, rfl⟩ rfl rfl rfl rfl rfl (by kernel_rfl) Try.func3 (by kernel_rfl)
    (of_decide_eq_true (by kernel_rfl)) (by unfold Func.isWrapper; first | (rw [if_pos (by decide +kernel)]; kernel_rfl) | (rw [if_neg (by decide +kernel)]; exact ⟨rfl, rfl⟩))
    (fun os started H enc _ => lifted os started H enc)

end Go.Proofs.Ytbcegpncledolaa.fnExactInOk
namespace Go.Proofs.Ytbcegpncledolaa
theorem fnExactInOk_holds : Rows.FnExactInOkSaid :=
  fnExactInOk.over
#print axioms fnExactInOk_holds
end Go.Proofs.Ytbcegpncledolaa
