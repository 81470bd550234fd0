/-
  Proved: for every machine, code, cells, region and time the call of FnExactStepCpu returns true: StepCpu of the program answers as that of the specification, field by field (arguments of more than 1048576 numbers in all the law itself lets by), writes into no argument, keeps nothing of one, and its answer owns its memory. No conditions.
-/
import Derived.Test.YtbacmkibilhkgaaRows
import Derived.Test.YtbacmkibilhkgaaStepIn
import Derived.OpenShut
import Derived.ShutString
import Derived.ChangeOld
import Derived.Below
import Derived.OpenVars
import Derived.Deep.DeepHandedRow
namespace Go.Proofs.Ytbacmkibilhkgaa.fnExactStepCpu
open Go.ChangeShapes Go.WideShapes Go.ChangeAt Go.RowKit Go.PlainAid
open Go.ChangeMaps (open_string shut_string)
set_option linter.unusedVariables false

theorem own : ownKnob Try.prog.godebug = none := by kernel_rfl
theorem laidOut : laidOutB Try.prog = true := by kernel_rfl


set_option maxRecDepth 100000 in
set_option maxHeartbeats 2000000 in
theorem walk (pc : Int) (a : Option Addr) (len cap : Nat) (z : List Int) (qc : Option Addr) (nc cc : Nat) (rl : List (Int × Int)) (qa : Option Addr) (m ca : Nat) (zc : List Int) (f s t : Int) (w : World) (_ : (Lit.int .i64 pc).wf = true) (h : IsRow .i64 w a len cap z) (hi : I.IsRegs w qc nc cc rl) (hA : IsRow .i64 w qa m ca zc) (_ : (Lit.int .i64 f).wf = true) (_ : (Lit.int .i64 s).wf = true) (_ : (Lit.int .i64 t).wf = true) :
    Calls Try.prog 4 #[.agg #[.int .i64 pc, .slice a len cap], .slice qc nc cc, .agg #[.slice qa m ca], .agg #[.int .i64 f, .int .i64 s], .int .i64 t] w fun e w' => e = .returned (.bool true) ∧ Below w.heap.size w w' := by
  obtain ⟨hr, hl, hc, hmn⟩ := rd_of_row h
  obtain ⟨hlc, hcc, hmc, hrc⟩ := hi
  obtain ⟨hra, hla, hca, hma⟩ := rd_of_row hA
  by_cases hsum : len + nc + m ≤ 1048576
  · exact walk_in pc a (z.take len) len cap qc rl nc cc qa (zc.take m) m ca f s t hl hlc hla hsum w hr hrc hra
  · clear hr hl hc h hrc hlc hcc hra hla hca hA
    have HW : Hid (Below w.heap.size w (((w.alloc (.cells #[.int .i64 pc, .slice a len cap] 24)).alloc (.cells #[.slice qa m ca] 33)).alloc (.cells #[.int .i64 f, .int .i64 s] 35))) := al3_b w _ _ _
    have HX : Hid ((((w.alloc (.cells #[.int .i64 pc, .slice a len cap] 24)).alloc (.cells #[.slice qa m ca] 33)).alloc (.cells #[.int .i64 f, .int .i64 s] 35)).heap[w.heap.size + 1]? = some (.cells #[.slice qa m ca] 33)) := al3_2 w _ _ _
    by_cases h1 : len ≤ 1048576
    · have HLE1 : Hid (leftN 1048576 len = 1048576 - len) := leftN_yes (by omega)
      by_cases h2 : len + nc ≤ 1048576
      · have HLE2 : Hid (leftN (1048576 - (len : Int)) nc = 1048576 - (len : Int) - nc) := leftN_yes (by omega)
        have HLE3 : Hid (leftN (1048576 - (len : Int) - (nc : Int)) m = -1) := leftN_no (by omega)
        go_enter Try.func4, Try.ntmps4
        go_wp2_with fail
        refine (szCL a pc len cap 1048576 hmn (by omega) (by omega) _).mono ?_
        rintro e w1 ⟨rfl, hb1⟩
        rw [HLE1.out]
        have HX1 : Hid (_ = _) := row_on HX.out hb1
        have HW1 : Hid (Below w.heap.size w w1) := HW.out.trans (hb1.mono HW.out.size)
        clear hb1 HW HX
        go_wp2_with fail
        refine (szInL qc nc cc (1048576 - (len : Int)) hmc (by omega) (by omega) _).mono ?_
        rintro e w1' ⟨rfl, rfl⟩
        rw [HLE2.out]
        have kx := row1_cells HX1.out
        go_wp2_with fail
        refine (szAL qa m ca (1048576 - (len : Int) - (nc : Int)) hma (by omega) (by omega) _).mono ?_
        rintro e w2 ⟨rfl, hb2⟩
        rw [HLE3.out]
        have HW2 : Hid (Below w.heap.size w w2) := HW1.out.trans (hb2.mono HW1.out.size)
        clear hb2 HW1 HX1 kx
        go_wp2
        go_ret
        exact ⟨rfl, HW2.out⟩
      · have HLE2 : Hid (leftN (1048576 - (len : Int)) nc = -1) := leftN_no (by omega)
        go_enter Try.func4, Try.ntmps4
        go_wp2_with fail
        refine (szCL a pc len cap 1048576 hmn (by omega) (by omega) _).mono ?_
        rintro e w1 ⟨rfl, hb1⟩
        rw [HLE1.out]
        have HW1 : Hid (Below w.heap.size w w1) := HW.out.trans (hb1.mono HW.out.size)
        clear hb1 HW HX
        go_wp2_with fail
        refine (szInL qc nc cc (1048576 - (len : Int)) hmc (by omega) (by omega) _).mono ?_
        rintro e w1' ⟨rfl, rfl⟩
        rw [HLE2.out]
        go_wp2
        go_ret
        exact ⟨rfl, HW1.out⟩
    · have HLE1 : Hid (leftN 1048576 len = -1) := leftN_no (by omega)
      go_enter Try.func4, Try.ntmps4
      go_wp2_with fail
      refine (szCL a pc len cap 1048576 hmn (by omega) (by omega) _).mono ?_
      rintro e w1 ⟨rfl, hb1⟩
      rw [HLE1.out]
      have HW1 : Hid (Below w.heap.size w w1) := HW.out.trans (hb1.mono HW.out.size)
      clear hb1 HW HX
      go_wp2
      go_ret
      exact ⟨rfl, HW1.out⟩

set_option maxRecDepth 100000 in
theorem lifted (os : Os) (started : os.Started) (H : Type) (enc : TypeId × Value → H) :
    ReturnsInHanded {} Try.checked os 4 .any (Rows.fnExactStepCpuSpec.pre6 enc Try.prog Try.f4 Rows.fnExactStepCpuRow.domain false) (Rows.fnExactStepCpuSpec.post enc Try.prog Try.f4 false true false false) := by
  refine returnsInHanded_of_change (C := Try.checked) own started (by kernel_rfl) Try.func4
    (ChangeSpec.witness6 (enc := enc) (C := Try.checked) false ⟨#[], #[.agg #[.int .i64 0, .slice none 0 0], .slice none 0 0, .agg #[.slice none 0 0], .agg #[.int .i64 0, .int .i64 0], .int .i64 0], []⟩ 8 (by kernel_rfl) (by kernel_rfl) (by kernel_rfl) (by kernel_rfl)) ?_
  intro W base args ds gs before hval0 hW hcnd _
  have hval : ∀ (j : Nat) t v, Try.f4.params[j]? = some t → args[j]? = some v → Value.okWide Try.prog W .any base t v := hval0
  have hW' := hW
  obtain ⟨p, q, hA0, hV, rfl, hfz, hnd⟩ := hW
  have hA : DataW.TrodAll enc Try.prog W 0 (fun _ => true) true Try.f4.params.toList args.toList ds p := hA0
  rw [Try.params4] at hA hval
  obtain ⟨v0, vs0, d0, ds0, p0, q0, hargs, rfl, rfl, h0, r0⟩ := trodAll_cons hA
  obtain ⟨v1, vs1, d1, ds1, p1, q1, rfl, rfl, rfl, h1, r1⟩ := trodAll_cons r0
  obtain ⟨v2, vs2, d2, ds2, p2, q2, rfl, rfl, rfl, h2, r2⟩ := trodAll_cons r1
  obtain ⟨v3, vs3, d3, ds3, p3, q3, rfl, rfl, rfl, h3, r3⟩ := trodAll_cons r2
  obtain ⟨v4, vs4, d4, ds4, p4, q4, rfl, rfl, rfl, h4, r4⟩ := trodAll_cons r3
  obtain ⟨rfl, rfl, rfl⟩ := trodAll_nil r4
  obtain rfl : args = #[v0, v1, v2, v3, v4] := by cases args; simp_all
  obtain ⟨rfl, rfl⟩ := trodVars_none hV
  have k0 := h0
  have lt0 : ∀ x ∈ p0, x.block < W.heap.size := by obtain ⟨m, hm⟩ := k0; exact DataW.trod_lt m _ _ _ hm
  obtain ⟨p0c, a0, len0, cap0, z0, rfl, wp0, w0⟩ := open_cpu (hval 0 24 v0 rfl rfl) h0
  have k1 := h1
  have lt1 : ∀ x ∈ p1, x.block < W.heap.size := by obtain ⟨m, hm⟩ := k1; exact DataW.trod_lt m _ _ _ hm
  obtain ⟨a1, len1, cap1, z1, rfl, w1⟩ := I.open_regions (hval 1 31 v1 rfl rfl) h1
  have k2 := h2
  have lt2 : ∀ x ∈ p2, x.block < W.heap.size := by obtain ⟨m, hm⟩ := k2; exact DataW.trod_lt m _ _ _ hm
  obtain ⟨a2, len2, cap2, z2, rfl, w2⟩ := open_arena (hval 2 33 v2 rfl rfl) h2
  have k3 := h3
  have lt3 : ∀ x ∈ p3, x.block < W.heap.size := by obtain ⟨m, hm⟩ := k3; exact DataW.trod_lt m _ _ _ hm
  obtain ⟨a3, b3, rfl, wa3, wb3⟩ := open_region (hval 3 35 v3 rfl rfl) h3
  obtain ⟨a4, rfl, rfl, rfl, w4⟩ := open_int Try.underlying3 (hval 4 3 v4 rfl rfl) h4
  clear hA0 hval0
  refine (walk p0c a0 len0 cap0 z0 a1 len1 cap1 z1 a2 len2 cap2 z2 a3 b3 a4 W wp0 w0 w1 w2 wa3 wb3 w4).mono fun e W' ⟨he, bel⟩ => ?_
  subst he
  exact ⟨_, rfl, _, _, _, [], _, [], hW', trodAll_mk1 (shut_bool Try.underlying4 _), (trodAll_cons_mk (Below.trod laidOut (by kernel_rfl) (of_decide_eq_true (by kernel_rfl)) k0 bel lt0) (trodAll_cons_mk (Below.trod laidOut (by kernel_rfl) (of_decide_eq_true (by kernel_rfl)) k1 bel lt1) (trodAll_cons_mk (Below.trod laidOut (by kernel_rfl) (of_decide_eq_true (by kernel_rfl)) k2 bel lt2) (trodAll_cons_mk (Below.trod laidOut (by kernel_rfl) (of_decide_eq_true (by kernel_rfl)) k3 bel lt3) (trodAll_cons_mk (shut_int Try.underlying3 w4) trodAll_mk0))))), rfl, bel.frame _, fun h => by cases h⟩

theorem over : Rows.fnExactStepCpuRow.holds Try.pinned (OpenSpec.ofChange Rows.fnExactStepCpuSpec) :=
  OpenClaim.holds_of_wide 4 Try.f4 rfl rfl rfl rfl rfl rfl rfl ⟨rfl, rfl, rfl, rfl, rfl⟩ rfl rfl rfl rfl rfl (by kernel_rfl) Try.func4 (by kernel_rfl)
    (of_decide_eq_true (by kernel_rfl)) (by unfold Func.isWrapper; first | (rw [if_pos (by decide +kernel)]; kernel_rfl) | (rw [if_neg (by decide +kernel)]; exact ⟨rfl, rfl⟩))
    (fun os started H enc _ => lifted os started H enc)

end Go.Proofs.Ytbacmkibilhkgaa.fnExactStepCpu
namespace Go.Proofs.Ytbacmkibilhkgaa
theorem fnExactStepCpu_holds : Rows.FnExactStepCpuSaid :=
  fnExactStepCpu.over
#print axioms fnExactStepCpu_holds
end Go.Proofs.Ytbacmkibilhkgaa
