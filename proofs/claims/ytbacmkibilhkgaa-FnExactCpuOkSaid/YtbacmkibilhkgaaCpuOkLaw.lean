/-
  Proved: for every machine the call of FnExactCpuOk returns true: CpuOk of the program answers as that of the specification (stacks of more than 1048576 numbers the law itself lets by), and it writes into no argument. No conditions.
-/
import Derived.Test.YtbacmkibilhkgaaRows
import Derived.Test.YtbacmkibilhkgaaCpu2
import Derived.OpenShut
import Derived.ShutString
import Derived.ChangeOld
import Derived.Below
import Derived.OpenVars
import Derived.Deep.DeepHandedRow
namespace Go.Proofs.Ytbacmkibilhkgaa.fnExactCpuOk
open Go.ChangeShapes Go.WideShapes Go.ChangeAt Go.RowKit Go.PlainAid
open Go.ChangeMaps (open_string shut_string)
set_option linter.unusedVariables false

theorem own : ownKnob Try.prog.godebug = none := by kernel_rfl
theorem laidOut : laidOutB Try.prog = true := by kernel_rfl

set_option maxRecDepth 100000 in
set_option maxHeartbeats 1000000 in
theorem walk_in (pc : Int) (a : Option Addr) (st : List Int) (n cap : Nat) (hl : st.length = n) (hn : n ≤ 1048576) (w : World) (hr : Rd w a st) :
    Calls Try.prog 3 #[.agg #[.int .i64 pc, .slice a n cap]] w fun e w' => e = .returned (.bool true) ∧ Below w.heap.size w w' := by
  obtain ⟨h1, h2, h3⟩ := box2 w (.int .i64 pc) (.slice a n cap) 24
  have HX : Hid (_ = _) := h1
  have HW : Hid (Below _ _ _) := h2
  have HL : Hid (st.length = n) := hl
  have HR : Hid (Rd w a st) := hr
  obtain ⟨b, hB⟩ := cpu_bool pc st
  have HB : Hid (b = true ↔ CpuR pc st) := hB
  have hm : n ≤ 9223372036854775807 := by omega
  have HLE : Hid (leftN 1048576 n = 1048576 - n) := leftN_yes (by omega)
  clear h1 h2 h3 hl hr hB
  go_enter Try.func3, Try.ntmps3
  go_wp2_with fail
  refine (szCL a pc n cap 1048576 hm (by omega) (by omega) _).mono ?_
  rintro e w1 ⟨rfl, hb1⟩
  rw [HLE.out]
  have HX1 : Hid (_ = _) := row_on HX.out hb1
  have HW1 : Hid (Below w.heap.size w w1) := HW.out.trans (hb1.mono HW.out.size)
  clear hb1 HX HW
  have k1 := row2_cells HX1.out
  go_wp2_with fail
  refine (toC a pc st n cap HL.out hn _ (HR.out.keep HW1.out (Nat.le_refl _))).mono ?_
  rintro e w2 ⟨g2, rfl, _, hrow2, hb2⟩
  have HX2 : Hid (_ = _) := row_on HX1.out hb2
  have HW2 : Hid (Below w.heap.size w w2) := HW1.out.trans (hb2.mono HW1.out.size)
  have HR2 : Hid (Rd w2 (some ⟨g2, 0, none⟩) st) := hrow2.rd
  clear hb2 HX1 HW1 hrow2 k1
  go_wp2_with fail
  refine (cpuokS (some ⟨g2, 0, none⟩) pc st n n b HL.out hm HB.out _ HR2.out).mono ?_
  rintro e w3 ⟨rfl, hb3⟩
  have HX3 : Hid (_ = _) := row_on HX2.out hb3
  have HW3 : Hid (Below w.heap.size w w3) := HW2.out.trans (hb3.mono HW2.out.size)
  clear hb3 HX2 HW2 HR2
  have k1 := row2_cells HX3.out
  go_wp2_with fail
  refine (toC a pc st n cap HL.out hn _ (HR.out.keep HW3.out (Nat.le_refl _))).mono ?_
  rintro e w4 ⟨g4, rfl, _, hrow4, hb4⟩
  have HX4 : Hid ((w4.alloc (.cells #[.int .i64 pc, .slice (some ⟨g4, 0, none⟩) n n] 27)).heap[w.heap.size]? = _) := (Below.heap_alloc _ _ _ (row_lt (row_on HX3.out hb4))).trans (row_on HX3.out hb4)
  have HY4 : Hid ((w4.alloc (.cells #[.int .i64 pc, .slice (some ⟨g4, 0, none⟩) n n] 27)).heap[w4.heap.size]? = _) := heap_new w4 _
  have HW4 : Hid (Below w.heap.size w (w4.alloc (.cells #[.int .i64 pc, .slice (some ⟨g4, 0, none⟩) n n] 27))) := (HW3.out.trans (hb4.mono HW3.out.size)).alloc (HW3.out.trans (hb4.mono HW3.out.size)).size _
  have HG4 : Hid (RowAt (w4.alloc (.cells #[.int .i64 pc, .slice (some ⟨g4, 0, none⟩) n n] 27)) g4 st) := hrow4.alloc _
  clear hb4 HX3 HW3 hrow4 k1
  go_wp2_with fail
  refine (cpuokI (some ⟨g4, 0, none⟩) pc st n n b HL.out hm HB.out _ HG4.out.rd).mono ?_
  rintro e w5 ⟨rfl, hb5⟩
  have HX5 : Hid (_ = _) := row_on HX4.out hb5
  have HY5 : Hid (_ = _) := row_on HY4.out hb5
  have HW5 : Hid (Below w.heap.size w w5) := HW4.out.trans (hb5.mono HW4.out.size)
  have HG5 : Hid (RowAt w5 g4 st) := HG4.out.on hb5
  have HQ : Hid (w5.cell? ⟨w4.heap.size, 0, none⟩ = some (.int .i64 pc) ∧ w5.cell? ⟨w4.heap.size, 1, none⟩ = some (.slice (some ⟨g4, 0, none⟩) n n) ∧ w5.cell? ⟨w.heap.size, 0, none⟩ = some (.int .i64 pc) ∧ w5.cell? ⟨w.heap.size, 1, none⟩ = some (.slice a n cap)) := ⟨(row2_cells HY5.out).1, (row2_cells HY5.out).2.1, (row2_cells HX5.out).1, (row2_cells HX5.out).2.1⟩
  have HRw : Hid (Rd w5 a st) := HR.out.keep HW5.out (Nat.le_refl _)
  clear hb5 HX4 HY4 HW4 HG4 HX5 HY5
  go_wp2_with fail
  go_region_held3 (fun w' => w'.cell? ⟨w4.heap.size, 0, none⟩ = some (.int .i64 pc) ∧ w'.cell? ⟨w4.heap.size, 1, none⟩ = some (.slice (some ⟨g4, 0, none⟩) n n) ∧ w'.cell? ⟨w.heap.size, 0, none⟩ = some (.int .i64 pc) ∧ w'.cell? ⟨w.heap.size, 1, none⟩ = some (.slice a n cap) ∧ Below w5.heap.size w5 w') (first | (exact q4_keep HQ.out HBz.out) | (exact q4_keep HQ.out (q4_on (by assumption) (by assumption))) | (exact q4_keep HQ.out (Below.refl _ _).drew)) (first | (go_at_call 13; refine (toC a pc st n cap HL.out hn _ ?_).mono ?_; (exact HRw.out.on (q4_bel (by assumption))); rintro e w6 ⟨g6, rfl, hg6, hrow6, hb6⟩) | (go_at_call 15; refine (eqC (some ⟨g4, 0, none⟩) (some ⟨g6, 0, none⟩) pc st n n n HL.out hn _ ?_ ?_).mono ?_; (exact HG5.out.rd.on (q4_bel (by assumption))); (exact hrow6.rd); rintro e w7 ⟨rfl, hb7⟩; have HBz : Hid (Below w5.heap.size w5 w7) := q4_on hb7 (by assumption)))
  have HW7 : Hid (Below w.heap.size w w7) := HW5.out.trans (HBz.out.mono HW5.out.size)
  rename_i HH
  clear HH hb6 hb7 hrow6 hg6 HBz HW5 HQ
  go_wp2
  go_ret
  exact ⟨rfl, HW7.out⟩

theorem walk (pc : Int) (a : Option Addr) (len cap : Nat) (z : List Int) (w : World) (_ : (Lit.int .i64 pc).wf = true) (h : IsRow .i64 w a len cap z) :
    Calls Try.prog 3 #[.agg #[.int .i64 pc, .slice a len cap]] w fun e w' => e = .returned (.bool true) ∧ Below w.heap.size w w' := by
  obtain ⟨hr, hl, hc, hm⟩ := rd_of_row h
  by_cases hn : len ≤ 1048576
  · exact walk_in pc a (z.take len) len cap hl hn w hr
  · clear hr hl hc h
    have HLE : Hid (leftN 1048576 len = -1) := leftN_no (by omega)
    have HW : Hid (Below w.heap.size w (w.alloc (.cells #[.int .i64 pc, .slice a len cap] 24))) := (box2 w _ _ _).2.1
    go_enter Try.func3, Try.ntmps3
    go_wp2_with fail
    refine (szCL a pc len cap 1048576 hm (by omega) (by omega) _).mono ?_
    rintro e w1 ⟨rfl, hb1⟩
    rw [HLE.out]
    have HW1 : Hid (Below w.heap.size w w1) := HW.out.trans (hb1.mono HW.out.size)
    clear hb1 HW
    go_wp2
    go_ret
    exact ⟨rfl, HW1.out⟩

set_option maxRecDepth 100000 in
theorem lifted (os : Os) (started : os.Started) (H : Type) (enc : TypeId × Value → H) :
    ReturnsInHanded {} Try.checked os 3 .any (Rows.fnExactCpuOkSpec.pre6 enc Try.prog Try.f3 Rows.fnExactCpuOkRow.domain false) (Rows.fnExactCpuOkSpec.post enc Try.prog Try.f3 false true false false) := by
  refine returnsInHanded_of_change (C := Try.checked) own started (by kernel_rfl) Try.func3
    (ChangeSpec.witness6 (enc := enc) (C := Try.checked) false ⟨#[], #[.agg #[.int .i64 0, .slice none 0 0]], []⟩ 8 (by kernel_rfl) (by kernel_rfl) (by kernel_rfl) (by kernel_rfl)) ?_
  intro W base args ds gs before hval0 hW hcnd _
  have hval : ∀ (j : Nat) t v, Try.f3.params[j]? = some t → args[j]? = some v → Value.okWide Try.prog W .any base t v := hval0
  have hW' := hW
  obtain ⟨p, q, hA0, hV, rfl, hfz, hnd⟩ := hW
  have hA : DataW.TrodAll enc Try.prog W 0 (fun _ => true) true Try.f3.params.toList args.toList ds p := hA0
  rw [Try.params3] at hA hval
  obtain ⟨v0, vs0, d0, ds0, p0, q0, hargs, rfl, rfl, h0, r0⟩ := trodAll_cons hA
  obtain ⟨rfl, rfl, rfl⟩ := trodAll_nil r0
  obtain rfl : args = #[v0] := by cases args; simp_all
  obtain ⟨rfl, rfl⟩ := trodVars_none hV
  have k0 := h0
  have lt0 : ∀ x ∈ p0, x.block < W.heap.size := by obtain ⟨m, hm⟩ := k0; exact DataW.trod_lt m _ _ _ hm
  obtain ⟨p0c, a0, len0, cap0, z0, rfl, wp0, w0⟩ := open_cpu (hval 0 24 v0 rfl rfl) h0
  clear hA0 hval0
  refine (walk p0c a0 len0 cap0 z0 W wp0 w0).mono fun e W' ⟨he, bel⟩ => ?_
  subst he
  exact ⟨_, rfl, _, _, _, [], _, [], hW', trodAll_mk1 (shut_bool Try.underlying4 _), (trodAll_cons_mk (Below.trod laidOut (by kernel_rfl) (of_decide_eq_true (by kernel_rfl)) k0 bel lt0) trodAll_mk0), rfl, bel.frame _, fun h => by cases h⟩

theorem over : Rows.fnExactCpuOkRow.holds Try.pinned (OpenSpec.ofChange Rows.fnExactCpuOkSpec) :=
  OpenClaim.holds_of_wide 3 Try.f3 rfl rfl rfl rfl rfl rfl rfl ⟨rfl, rfl, rfl, rfl, rfl⟩ rfl rfl rfl rfl rfl (by kernel_rfl) Try.func3 (by kernel_rfl)
    (of_decide_eq_true (by kernel_rfl)) (by unfold Func.isWrapper; first | (rw [if_pos (by decide +kernel)]; kernel_rfl) | (rw [if_neg (by decide +kernel)]; exact ⟨rfl, rfl⟩))
    (fun os started H enc _ => lifted os started H enc)

end Go.Proofs.Ytbacmkibilhkgaa.fnExactCpuOk
namespace Go.Proofs.Ytbacmkibilhkgaa
theorem fnExactCpuOk_holds : Rows.FnExactCpuOkSaid :=
  fnExactCpuOk.over
#print axioms fnExactCpuOk_holds
end Go.Proofs.Ytbacmkibilhkgaa
