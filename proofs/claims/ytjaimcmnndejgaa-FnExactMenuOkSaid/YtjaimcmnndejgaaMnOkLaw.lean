/-
  Proved: at every argument the call of FnExactMenuOk returns true: MenuOk of the program answers as that of the specification; the argument reads as before. No conditions.
-/
import Derived.Test.YtjaimcmnndejgaaRows
import Derived.Test.YtjaimcmnndejgaaMnI
import Derived.Test.YtjaimcmnndejgaaOpenMn
import Derived.OpenShut
import Derived.ShutString
import Derived.ChangeOld
import Derived.Below
import Derived.OpenVars
import Derived.Deep.DeepHandedRow
namespace Go.Proofs.Ytjaimcmnndejgaa.fnExactMenuOk
open Go.ChangeShapes Go.WideShapes Go.ChangeAt Go.RowKit Go.PlainAid
open Go.ChangeMaps (open_string shut_string)
set_option linter.unusedVariables false

theorem own : ownKnob Try.prog.godebug = none := by kernel_rfl
theorem laidOut : laidOutB Try.prog = true := by kernel_rfl

set_option maxRecDepth 100000 in
set_option maxHeartbeats 8000000 in
theorem walk_in (m : Mn) (hn : m.s.length ≤ 1048576) (w : World) :
    Calls Try.prog 7 #[mnV m] w fun e w' => e = .returned (.bool true) ∧ Below w.heap.size w w' := by
  have hm : m.s.length ≤ 9223372036854775807 := by omega
  obtain ⟨L0, hL0⟩ : ∃ L0 : Nat, leftM m.s.length = (L0 : Int) := ⟨1048576 - m.s.length, by unfold leftM; rw [if_pos hn]; omega⟩
  have HLE : Hid (leftM m.s.length = (L0 : Int)) := hL0
  have hl0 : ¬ ((L0 : Int) < 0) := by omega
  clear hL0
  obtain ⟨B, hB⟩ : ∃ B, okM m = B := ⟨_, rfl⟩
  have HB : Hid (okM m = B) := hB
  clear hB
  have FW_1 : Hid (Below w.heap.size w (w)) := Below.refl _ _
  have N_2 : Hid ((w).heap.size ≤ (w.alloc (.cells #[.int .i64 m.a, .bool m.b, .int .i64 m.n, .int .i64 m.d, .string ⟨m.s.toArray⟩] 44)).heap.size) := ((Below.refl (w).heap.size (w)).alloc (Nat.le_refl _) (.cells #[.int .i64 m.a, .bool m.b, .int .i64 m.n, .int .i64 m.d, .string ⟨m.s.toArray⟩] 44)).size
  have FW_3 : Hid (Below w.heap.size w (w.alloc (.cells #[.int .i64 m.a, .bool m.b, .int .i64 m.n, .int .i64 m.d, .string ⟨m.s.toArray⟩] 44))) := bel_on (Nat.le_refl _) FW_1.out ((Below.refl (w).heap.size (w)).alloc (Nat.le_refl _) (.cells #[.int .i64 m.a, .bool m.b, .int .i64 m.n, .int .i64 m.d, .string ⟨m.s.toArray⟩] 44))
  clear FW_1
  have N_4 : Hid (w.heap.size < (w.alloc (.cells #[.int .i64 m.a, .bool m.b, .int .i64 m.n, .int .i64 m.d, .string ⟨m.s.toArray⟩] 44)).heap.size) := by simp [Hid]
  have FA_5 : Hid ((w.alloc (.cells #[.int .i64 m.a, .bool m.b, .int .i64 m.n, .int .i64 m.d, .string ⟨m.s.toArray⟩] 44)).heap[w.heap.size]? = some (.cells #[.int .i64 m.a, .bool m.b, .int .i64 m.n, .int .i64 m.d, .string ⟨m.s.toArray⟩] 44)) := heap_new w _
  unfold mnV
  go_enter Try.func7, Try.ntmps7
  have kA := box5_cells FA_5.out
  go_wp2_with fail
  clear kA
  refine (szMnu m hm _).mono ?_
  rintro e w1 ⟨rfl, hb1⟩
  rw [HLE.out]
  have N_6 : Hid ((w.alloc (.cells #[.int .i64 m.a, .bool m.b, .int .i64 m.n, .int .i64 m.d, .string ⟨m.s.toArray⟩] 44)).heap.size ≤ (w1).heap.size) := (hb1).size
  have FW_7 : Hid (Below w.heap.size w (w1)) := bel_on (Nat.le_refl _) FW_3.out (hb1)
  have FA_8 : Hid ((w1).heap[w.heap.size]? = some (.cells #[.int .i64 m.a, .bool m.b, .int .i64 m.n, .int .i64 m.d, .string ⟨m.s.toArray⟩] 44)) := row_on FA_5.out (hb1)
  clear FW_3 FA_5
  clear hb1
  have kA := box5_cells FA_8.out
  go_wp2_with fail
  clear kA
  refine (toMnu m _).mono ?_
  rintro e w2 ⟨rfl, hb2⟩
  have N_9 : Hid ((w1).heap.size ≤ (w2).heap.size) := (hb2).size
  have FW_10 : Hid (Below w.heap.size w (w2)) := bel_on (Nat.le_refl _) FW_7.out (hb2)
  have FA_11 : Hid ((w2).heap[w.heap.size]? = some (.cells #[.int .i64 m.a, .bool m.b, .int .i64 m.n, .int .i64 m.d, .string ⟨m.s.toArray⟩] 44)) := row_on FA_8.out (hb2)
  clear FW_7 FA_8
  clear hb2
  go_wp2_with fail
  refine (menuokS m B HB.out _).mono ?_
  rintro e w3 ⟨rfl, hb3⟩
  have N_12 : Hid ((w2).heap.size ≤ (w3).heap.size) := (hb3).size
  have FW_13 : Hid (Below w.heap.size w (w3)) := bel_on (Nat.le_refl _) FW_10.out (hb3)
  have FA_14 : Hid ((w3).heap[w.heap.size]? = some (.cells #[.int .i64 m.a, .bool m.b, .int .i64 m.n, .int .i64 m.d, .string ⟨m.s.toArray⟩] 44)) := row_on FA_11.out (hb3)
  clear FW_10 FA_11
  clear hb3
  have kA := box5_cells FA_14.out
  go_wp2_with fail
  clear kA
  refine (toMnu m _).mono ?_
  rintro e w4 ⟨rfl, hb4⟩
  have N_15 : Hid ((w3).heap.size ≤ (w4).heap.size) := (hb4).size
  have FW_16 : Hid (Below w.heap.size w (w4)) := bel_on (Nat.le_refl _) FW_13.out (hb4)
  have FA_17 : Hid ((w4).heap[w.heap.size]? = some (.cells #[.int .i64 m.a, .bool m.b, .int .i64 m.n, .int .i64 m.d, .string ⟨m.s.toArray⟩] 44)) := row_on FA_14.out (hb4)
  clear FW_13 FA_14
  clear hb4
  go_wp2_with fail
  refine (menuokI m B HB.out _).mono ?_
  rintro e w5 ⟨rfl, hb5⟩
  have N_18 : Hid ((w4).heap.size ≤ (w5).heap.size) := (hb5).size
  have FW_19 : Hid (Below w.heap.size w (w5)) := bel_on (Nat.le_refl _) FW_16.out (hb5)
  have FA_20 : Hid ((w5).heap[w.heap.size]? = some (.cells #[.int .i64 m.a, .bool m.b, .int .i64 m.n, .int .i64 m.d, .string ⟨m.s.toArray⟩] 44)) := row_on FA_17.out (hb5)
  clear FW_16 FA_17
  clear hb5
  go_wp2
  go_ret
  exact ⟨by cases B <;> rfl, FW_19.out⟩

set_option maxRecDepth 100000 in
set_option maxHeartbeats 2000000 in
theorem walk (m : Mn) (w : World) (h : m.s.length ≤ maxLen) :
    Calls Try.prog 7 #[mnV m] w fun e w' => e = .returned (.bool true) ∧ Below w.heap.size w w' := by
  by_cases hn : m.s.length ≤ 1048576
  · exact walk_in m hn w
  · have HLE : Hid (leftM m.s.length = -1) := by show _ = _; unfold leftM; rw [if_neg hn]
    have hm : m.s.length ≤ 9223372036854775807 := by unfold maxLen at h; omega
    have HW : Hid (Below w.heap.size w (w.alloc (.cells #[.int .i64 m.a, .bool m.b, .int .i64 m.n, .int .i64 m.d, .string ⟨m.s.toArray⟩] 44))) := alM _ _
    have kA := box5_cells (heap_new w (.cells #[.int .i64 m.a, .bool m.b, .int .i64 m.n, .int .i64 m.d, .string ⟨m.s.toArray⟩] 44))
    unfold mnV
    go_enter Try.func7, Try.ntmps7
    go_wp2_with fail
    refine (szMnu m hm _).mono ?_
    rintro e w1 ⟨rfl, hb1⟩
    rw [HLE.out]
    have HW1 : Hid (Below w.heap.size w w1) := HW.out.trans (hb1.mono HW.out.size)
    clear hb1 HW kA
    go_wp2
    go_ret
    exact ⟨rfl, HW1.out⟩

set_option maxRecDepth 100000 in
theorem lifted (os : Os) (started : os.Started) (H : Type) (enc : TypeId × Value → H) :
    ReturnsInHanded {} Try.checked os 7 .any (Rows.fnExactMenuOkSpec.pre6 enc Try.prog Try.f7 Rows.fnExactMenuOkRow.domain false) (Rows.fnExactMenuOkSpec.post enc Try.prog Try.f7 false true false false) := by
  refine returnsInHanded_of_change (C := Try.checked) own started (by kernel_rfl) Try.func7
    (ChangeSpec.witness6 (enc := enc) (C := Try.checked) false ⟨#[], #[.agg #[.int .i64 0, .bool false, .int .i64 0, .int .i64 0, .string ⟨#[]⟩]], []⟩ 8 (by kernel_rfl) (by kernel_rfl) (by kernel_rfl) (by kernel_rfl)) ?_
  intro W base args ds gs before hval0 hW hcnd _
  have hval : ∀ (j : Nat) t v, Try.f7.params[j]? = some t → args[j]? = some v → Value.okWide Try.prog W .any base t v := hval0
  have hW' := hW
  obtain ⟨p, q, hA0, hV, rfl, hfz, hnd⟩ := hW
  have hA : DataW.TrodAll enc Try.prog W 0 (fun _ => true) true Try.f7.params.toList args.toList ds p := hA0
  rw [Try.params7] at hA hval
  obtain ⟨v0, vs0, d0, ds0, p0, q0, hargs, rfl, rfl, h0, r0⟩ := trodAll_cons hA
  obtain ⟨rfl, rfl, rfl⟩ := trodAll_nil r0
  obtain rfl : args = #[v0] := by cases args; simp_all
  obtain ⟨rfl, rfl⟩ := trodVars_none hV
  have k0 := h0
  have lt0 : ∀ x ∈ p0, x.block < W.heap.size := by obtain ⟨m, hm⟩ := k0; exact DataW.trod_lt m _ _ _ hm
  obtain ⟨m0m, rfl, w0⟩ := open_menu (hval 0 44 v0 rfl rfl) h0
  clear hA0 hval0
  refine (walk m0m W w0).mono fun e W' ⟨he, bel⟩ => ?_
  subst he
  exact ⟨_, rfl, _, _, _, [], _, [], hW', trodAll_mk1 (shut_bool Try.underlying4 _), (trodAll_cons_mk (Below.trod laidOut (by kernel_rfl) (of_decide_eq_true (by kernel_rfl)) k0 bel lt0) trodAll_mk0), rfl, bel.frame _, fun h => by cases h⟩

theorem over : Rows.fnExactMenuOkRow.holds Try.pinned (OpenSpec.ofChange Rows.fnExactMenuOkSpec) :=
  OpenClaim.holds_of_wide 7 Try.f7 rfl rfl rfl rfl rfl rfl rfl ⟨rfl, rfl, rfl, rfl, rfl⟩ rfl rfl rfl rfl rfl (by kernel_rfl) Try.func7 (by kernel_rfl)
    (of_decide_eq_true (by kernel_rfl)) (by unfold Func.isWrapper; first | (rw [if_pos (by decide +kernel)]; kernel_rfl) | (rw [if_neg (by decide +kernel)]; exact ⟨rfl, rfl⟩))
    (fun os started H enc _ => lifted os started H enc)

end Go.Proofs.Ytjaimcmnndejgaa.fnExactMenuOk
namespace Go.Proofs.Ytjaimcmnndejgaa
theorem fnExactMenuOk_holds : Rows.FnExactMenuOkSaid :=
  fnExactMenuOk.over
#print axioms fnExactMenuOk_holds
end Go.Proofs.Ytjaimcmnndejgaa
