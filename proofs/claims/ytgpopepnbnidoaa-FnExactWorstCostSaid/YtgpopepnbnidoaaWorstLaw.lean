/-
  Proved: for every list of instructions the call of FnExactWorstCost returns true: WorstCost of the program answers as that of the specification (lists of more than 1048576 instructions the law itself lets by), and it writes into no argument. No conditions.
-/
import Derived.Test.YtgpopepnbnidoaaRows
import Derived.Test.YtgpopepnbnidoaaWorstS
import Derived.OpenShut
import Derived.ShutString
import Derived.ChangeOld
import Derived.Below
import Derived.OpenVars
import Derived.Deep.DeepHandedRow
namespace Go.Proofs.Ytgpopepnbnidoaa.fnExactWorstCost
open Go.ChangeShapes Go.WideShapes Go.ChangeAt Go.RowKit Go.PlainAid
open Go.ChangeMaps (open_string shut_string)
set_option linter.unusedVariables false

theorem own : ownKnob Try.prog.godebug = none := by kernel_rfl
theorem laidOut : laidOutB Try.prog = true := by kernel_rfl

open I
set_option maxRecDepth 100000 in
set_option maxHeartbeats 1000000 in
theorem walk (a : Option Addr) (len cap : Nat) (rl : List (Int × Int)) (w : World) (h : IsRegs w a len cap rl) :
    Calls Try.prog 7 #[.slice a len cap] w fun e w' => e = .returned (.bool true) ∧ Below w.heap.size w w' := by
  obtain ⟨hl, hc, hm, hr⟩ := h
  by_cases hn : len ≤ 1048576
  · have HL : Hid (rl.length = len) := hl
    have HR : Hid (RdR w a rl) := hr
    obtain ⟨b, hB⟩ := fwd_bool rl
    have HB : Hid (b = true ↔ FwdR rl) := hB
    obtain ⟨R, hR⟩ : ∃ R, (if b then wst rl 0 else 0) = R := ⟨_, rfl⟩
    have HRR : Hid ((if b then wst rl 0 else 0) = R) := hR
    clear hl hr hB hR
    go_enter Try.func7, Try.ntmps7
    go_wp2_with fail
    refine (szRs a len cap hm _).mono ?_
    rintro e w1 ⟨rfl, rfl⟩
    rw [if_pos hn]
    go_wp2_with fail
    refine (toRs a rl len cap HL.out hn _ HR.out).mono ?_
    rintro e w2 ⟨rfl, hrow2, hb2⟩
    have HW2 : Hid (Below w1.heap.size w1 w2) := hb2
    have HR2 : Hid (RowR w2 w1.heap.size rl) := hrow2
    clear hrow2 hb2
    go_wp2_with fail
    refine (worstS (some ⟨w1.heap.size, 0, none⟩) rl len len b R HL.out hn HB.out HRR.out _ HR2.out.rd).mono ?_
    rintro e w3 ⟨rfl, hb3⟩
    have HW3 : Hid (Below w1.heap.size w1 w3) := bel_on (Nat.le_refl _) HW2.out hb3
    clear HR2 hb3 HW2
    go_wp2_with fail
    refine (toRs a rl len cap HL.out hn _ (HR.out.keep HW3.out (Nat.le_refl _))).mono ?_
    rintro e w4 ⟨rfl, hrow4, hb4⟩
    have HW4 : Hid (Below w1.heap.size w1 w4) := bel_on (Nat.le_refl _) HW3.out hb4
    have HR4 : Hid (RowR w4 w3.heap.size rl) := hrow4
    clear hrow4 hb4 HW3
    go_wp2_with fail
    refine (worstI (some ⟨w3.heap.size, 0, none⟩) rl len len b R HL.out hm HB.out HRR.out _ HR4.out.rd).mono ?_
    rintro e w5 ⟨rfl, hb5⟩
    have HW5 : Hid (Below w1.heap.size w1 w5) := bel_on (Nat.le_refl _) HW4.out hb5
    have HR5 : Hid (RowR w5 w3.heap.size rl) := HR4.out.on hb5
    clear hb5 HW4 HR4
    go_wp2_with fail
    refine (toRs a rl len cap HL.out hn _ (HR.out.keep HW5.out (Nat.le_refl _))).mono ?_
    rintro e w6 ⟨rfl, hrow6, hb6⟩
    have HW6 : Hid (Below w1.heap.size w1 w6) := bel_on (Nat.le_refl _) HW5.out hb6
    have HR6 : Hid (RowR w6 w5.heap.size rl) := hrow6
    have HX6 : Hid (RowR w6 w3.heap.size rl) := HR5.out.on hb6
    clear hrow6 hb6 HW5 HR5
    go_wp2_with fail
    refine (eqRs w3.heap.size w5.heap.size rl len len len HL.out hn _ HX6.out HR6.out).mono ?_
    rintro e w7 ⟨rfl, hb7⟩
    have HW7 : Hid (Below w1.heap.size w1 w7) := bel_on (Nat.le_refl _) HW6.out hb7
    clear hb7 HW6 HR6 HX6
    go_wp2
    go_ret
    exact ⟨rfl, HW7.out⟩
  · clear hr hl hc
    go_enter Try.func7, Try.ntmps7
    go_wp2_with fail
    refine (szRs a len cap hm _).mono ?_
    rintro e w1 ⟨rfl, rfl⟩
    rw [if_neg hn]
    go_wp2
    go_ret
    exact ⟨rfl, Below.refl _ _⟩

set_option maxRecDepth 100000 in
theorem lifted (os : Os) (started : os.Started) (H : Type) (enc : TypeId × Value → H) :
    ReturnsInHanded {} Try.checked os 7 .any (Rows.fnExactWorstCostSpec.pre6 enc Try.prog Try.f7 Rows.fnExactWorstCostRow.domain false) (Rows.fnExactWorstCostSpec.post enc Try.prog Try.f7 false true false false) := by
  refine returnsInHanded_of_change (C := Try.checked) own started (by kernel_rfl) Try.func7
    (ChangeSpec.witness6 (enc := enc) (C := Try.checked) false ⟨#[], #[.slice none 0 0], []⟩ 8 (by kernel_rfl) (by kernel_rfl) (by kernel_rfl) (by kernel_rfl)) ?_
  intro W base args ds gs before hval0 hW hcnd _
  have hval : ∀ (j : Nat) t v, Try.f7.params[j]? = some t → args[j]? = some v → Value.okWide Try.prog W .any base t v := hval0
  have hW' := hW
  obtain ⟨p, q, hA0, hV, rfl, hfz, hnd⟩ := hW
  have hA : DataW.TrodAll enc Try.prog W 0 (fun _ => true) true Try.f7.params.toList args.toList ds p := hA0
  rw [Try.params7] at hA hval
  obtain ⟨v0, vs0, d0, ds0, p0, q0, hargs, rfl, rfl, h0, r0⟩ := trodAll_cons hA
  obtain ⟨rfl, rfl, rfl⟩ := trodAll_nil r0
  obtain rfl : args = #[v0] := by cases args; simp_all
  obtain ⟨rfl, rfl⟩ := trodVars_none hV
  have k0 := h0
  have lt0 : ∀ x ∈ p0, x.block < W.heap.size := by obtain ⟨m, hm⟩ := k0; exact DataW.trod_lt m _ _ _ hm
  obtain ⟨a0, len0, cap0, z0, rfl, w0⟩ := I.open_regions (hval 0 42 v0 rfl rfl) h0
  clear hA0 hval0
  refine (walk a0 len0 cap0 z0 W w0).mono fun e W' ⟨he, bel⟩ => ?_
  subst he
  exact ⟨_, rfl, _, _, _, [], _, [], hW', trodAll_mk1 (shut_bool Try.underlying4 _), (trodAll_cons_mk (Below.trod laidOut (by kernel_rfl) (of_decide_eq_true (by kernel_rfl)) k0 bel lt0) trodAll_mk0), rfl, bel.frame _, fun h => by cases h⟩

theorem over : Rows.fnExactWorstCostRow.holds Try.pinned (OpenSpec.ofChange Rows.fnExactWorstCostSpec) :=
  OpenClaim.holds_of_wide 7 Try.f7 rfl rfl rfl rfl rfl rfl rfl ⟨rfl, rfl, rfl, rfl, rfl⟩ rfl rfl rfl rfl rfl (by kernel_rfl) Try.func7 (by kernel_rfl)
    (of_decide_eq_true (by kernel_rfl)) (by unfold Func.isWrapper; first | (rw [if_pos (by decide +kernel)]; kernel_rfl) | (rw [if_neg (by decide +kernel)]; exact ⟨rfl, rfl⟩))
    (fun os started H enc _ => lifted os started H enc)

end Go.Proofs.Ytgpopepnbnidoaa.fnExactWorstCost
namespace Go.Proofs.Ytgpopepnbnidoaa
theorem fnExactWorstCost_holds : Rows.FnExactWorstCostSaid :=
  fnExactWorstCost.over
#print axioms fnExactWorstCost_holds
end Go.Proofs.Ytgpopepnbnidoaa
