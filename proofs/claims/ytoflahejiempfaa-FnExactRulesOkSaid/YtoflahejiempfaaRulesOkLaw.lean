/-
  Proved: for every list of rules the call of FnExactRulesOk returns true: RulesOk of the program answers as that of the specification (lists of more than 1048576 rules the law itself lets by), and it writes into no argument. No conditions.
-/
import Derived.Test.YtoflahejiempfaaRows
import Derived.Test.YtoflahejiempfaaActI
import Derived.OpenShut
import Derived.ShutString
import Derived.ChangeOld
import Derived.Below
import Derived.OpenVars
import Derived.Deep.DeepHandedRow
namespace Go.Proofs.Ytoflahejiempfaa.fnExactRulesOk
open Go.ChangeShapes Go.WideShapes Go.ChangeAt Go.RowKit Go.PlainAid
open Go.ChangeMaps (open_string shut_string)
set_option linter.unusedVariables false

theorem own : ownKnob Try.prog.godebug = none := by kernel_rfl
theorem laidOut : laidOutB Try.prog = true := by kernel_rfl

set_option maxRecDepth 100000 in
set_option maxHeartbeats 2000000 in
theorem walk_in (a : Option Addr) (l : List Rule) (n cap : Nat)  (hl : l.length = n) (hn : n ≤ 1048576) (w : World) (hr : RdU w a l) (hwf : WfU l)  :
    Calls Try.prog 4 #[.slice a n cap] w fun e w' => e = .returned (.bool true) ∧ Below w.heap.size w w' := by
  have HL : Hid (l.length = n) := hl
  have HR : Hid (RdU w a l) := hr
  have HWF : Hid (WfU l) := hwf
  have hm : n ≤ 9223372036854775807 := by omega
  have HLE : Hid ((if n ≤ 1048576 then 1048576 - (n : Int) else -1) = 1048576 - n) := if_pos hn
  obtain ⟨b, hB⟩ := rules_bool l
  have HPB : Hid (b = true ↔ RulesR l) := hB
  clear hB
  clear hl hr hwf
  have HW0 : Hid (Below w.heap.size w w) := Below.refl _ _
  go_enter Try.func4, Try.ntmps4
  go_wp2_with fail
  refine (szUs a n cap hm _).mono ?_
  rintro e wx ⟨rfl, hwx⟩
  have hwy := hwx.symm
  subst hwy
  clear hwx
  rw [HLE.out]
  go_wp2_with fail
  refine (toUs a l n cap HL.out hn _ (HR.out.keep HW0.out (Nat.le_refl _))).mono ?_
  rintro e w1 ⟨rfl, hrow1, hb1⟩
  have HW1 : Hid (Below w.heap.size w w1) := bel_on (Nat.le_refl _) HW0.out hb1
  have HX1 : Hid (RdU w1 (some ⟨w.heap.size, 0, none⟩) l) := hrow1.rd
  clear hb1 hrow1 HW0
  go_wp2_with fail
  refine (rulesS (some ⟨w.heap.size, 0, none⟩) l n n b HL.out hn HPB.out _ HX1.out).mono ?_
  rintro e w2 ⟨rfl, hb2⟩
  have HW2 : Hid (Below w.heap.size w w2) := bel_on (Nat.le_refl _) HW1.out hb2
  clear hb2 HW1 HX1
  go_wp2_with fail
  refine (toUs a l n cap HL.out hn _ (HR.out.keep HW2.out (Nat.le_refl _))).mono ?_
  rintro e w4 ⟨rfl, hrow4, hb4⟩
  have HW4 : Hid (Below w.heap.size w w4) := bel_on (Nat.le_refl _) HW2.out hb4
  obtain ⟨g4, hg4⟩ : ∃ k, w2.heap.size = k := ⟨_, rfl⟩
  rw [hg4] at hrow4 ⊢
  have HX4 : Hid (RdU w4 (some ⟨g4, 0, none⟩) l) := hrow4.rd
  clear hb4 hrow4 HW2 hg4
  go_wp2_with fail
  refine (rulesI (some ⟨g4, 0, none⟩) l n n b HL.out hn HWF.out HPB.out _ HX4.out).mono ?_
  rintro e w5 ⟨rfl, hb5⟩
  have HW5 : Hid (Below w.heap.size w w5) := bel_on (Nat.le_refl _) HW4.out hb5
  have HX5 : Hid (RdU w5 (some ⟨g4, 0, none⟩) l) := HX4.out.on hb5
  clear hb5 HW4 HX4
  have hbb : (b != b) = false := by simp
  go_wp2_with fail
  refine (toUs a l n cap HL.out hn _ (HR.out.keep HW5.out (Nat.le_refl _))).mono ?_
  rintro e w8 ⟨rfl, hrow8, hb8⟩
  obtain ⟨g8, hg8⟩ : ∃ k, w5.heap.size = k := ⟨_, rfl⟩
  rw [hg8] at hrow8 ⊢
  have HW8 : Hid (Below w.heap.size w w8) := bel_on (Nat.le_refl _) HW5.out hb8
  have HX8 : Hid (RdU w8 (some ⟨g4, 0, none⟩) l) := HX5.out.on hb8
  have HY8 : Hid (RdU w8 (some ⟨g8, 0, none⟩) l) := hrow8.rd
  clear hb8 hrow8 HW5 HX5 hg8
  go_wp2_with fail
  refine (eqUs (some ⟨g4, 0, none⟩) (some ⟨g8, 0, none⟩) l n n n HL.out hn _ HX8.out HY8.out).mono ?_
  rintro e w9 ⟨rfl, hb9⟩
  have HW9 : Hid (Below w.heap.size w w9) := bel_on (Nat.le_refl _) HW8.out hb9
  clear hb9 HW8 HX8 HY8
  go_wp2
  go_ret
  exact ⟨rfl, HW9.out⟩

theorem walk (a : Option Addr) (len cap : Nat) (z : List Rule)  (w : World) (h : IsRules w a len cap z)  :
    Calls Try.prog 4 #[.slice a len cap] w fun e w' => e = .returned (.bool true) ∧ Below w.heap.size w w' := by
  obtain ⟨hl, hc, hm, hr, hwf⟩ := h
  by_cases hn : len ≤ 1048576
  · exact walk_in a z len cap  hl hn w hr hwf 
  · clear hr hl hc hwf
    have HLE : Hid ((if len ≤ 1048576 then 1048576 - (len : Int) else -1) = -1) := if_neg hn
    go_enter Try.func4, Try.ntmps4
    go_wp2_with fail
    refine (szUs a len cap hm _).mono ?_
    rintro e w1 ⟨rfl, rfl⟩
    rw [HLE.out]
    go_wp2
    go_ret
    exact ⟨rfl, Below.refl _ _⟩

set_option maxRecDepth 100000 in
theorem lifted (os : Os) (started : os.Started) (H : Type) (enc : TypeId × Value → H) :
    ReturnsInHanded {} Try.checked os 4 .any (Rows.fnExactRulesOkSpec.pre6 enc Try.prog Try.f4 Rows.fnExactRulesOkRow.domain false) (Rows.fnExactRulesOkSpec.post enc Try.prog Try.f4 false true false false) := by
  refine returnsInHanded_of_change (C := Try.checked) own started (by kernel_rfl) Try.func4
    (ChangeSpec.witness6 (enc := enc) (C := Try.checked) false ⟨#[], #[.slice none 0 0], []⟩ 8 (by kernel_rfl) (by kernel_rfl) (by kernel_rfl) (by kernel_rfl)) ?_
  intro W base args ds gs before hval0 hW hcnd _
  have hval : ∀ (j : Nat) t v, Try.f4.params[j]? = some t → args[j]? = some v → Value.okWide Try.prog W .any base t v := hval0
  have hW' := hW
  obtain ⟨p, q, hA0, hV, rfl, hfz, hnd⟩ := hW
  have hA : DataW.TrodAll enc Try.prog W 0 (fun _ => true) true Try.f4.params.toList args.toList ds p := hA0
  rw [Try.params4] at hA hval
  obtain ⟨v0, vs0, d0, ds0, p0, q0, hargs, rfl, rfl, h0, r0⟩ := trodAll_cons hA
  obtain ⟨rfl, rfl, rfl⟩ := trodAll_nil r0
  obtain rfl : args = #[v0] := by cases args; simp_all
  obtain ⟨rfl, rfl⟩ := trodVars_none hV
  have k0 := h0
  have lt0 : ∀ x ∈ p0, x.block < W.heap.size := by obtain ⟨m, hm⟩ := k0; exact DataW.trod_lt m _ _ _ hm
  obtain ⟨a0, len0, cap0, z0, rfl, w0⟩ := open_rules (hval 0 31 v0 rfl rfl) h0
  clear hA0 hval0
  refine (walk a0 len0 cap0 z0 W w0).mono fun e W' ⟨he, bel⟩ => ?_
  subst he
  exact ⟨_, rfl, _, _, _, [], _, [], hW', trodAll_mk1 (shut_bool Try.underlying4 _), (trodAll_cons_mk (Below.trod laidOut (by kernel_rfl) (of_decide_eq_true (by kernel_rfl)) k0 bel lt0) trodAll_mk0), rfl, bel.frame _, fun h => by cases h⟩

theorem over : Rows.fnExactRulesOkRow.holds Try.pinned (OpenSpec.ofChange Rows.fnExactRulesOkSpec) :=
  OpenClaim.holds_of_wide 4 Try.f4 rfl rfl rfl rfl rfl rfl rfl ⟨rfl, rfl, rfl, rfl, rfl⟩ rfl rfl rfl rfl rfl (by kernel_rfl) Try.func4 (by kernel_rfl)
    (of_decide_eq_true (by kernel_rfl)) (by unfold Func.isWrapper; first | (rw [if_pos (by decide +kernel)]; kernel_rfl) | (rw [if_neg (by decide +kernel)]; exact ⟨rfl, rfl⟩))
    (fun os started H enc _ => lifted os started H enc)

end Go.Proofs.Ytoflahejiempfaa.fnExactRulesOk
namespace Go.Proofs.Ytoflahejiempfaa
theorem fnExactRulesOk_holds : Rows.FnExactRulesOkSaid :=
  fnExactRulesOk.over
#print axioms fnExactRulesOk_holds
end Go.Proofs.Ytoflahejiempfaa
