/-
  Proved: for every list of rules and every three ints the call of FnExactActFor returns true: ActFor of the program answers as that of the specification (lists of more than 1048576 rules the law itself lets by), and it writes into no argument. No conditions.
-/
import Derived.Test.YtoflahejiempfaaRows
import Derived.Test.YtoflahejiempfaaActI
import Derived.Test.YtoflahejiempfaaActS
import Derived.OpenShut
import Derived.ShutString
import Derived.ChangeOld
import Derived.Below
import Derived.OpenVars
import Derived.Deep.DeepHandedRow
namespace Go.Proofs.Ytoflahejiempfaa.fnExactActFor
open Go.ChangeShapes Go.WideShapes Go.ChangeAt Go.RowKit Go.PlainAid
open Go.ChangeMaps (open_string shut_string)
set_option linter.unusedVariables false

theorem own : ownKnob Try.prog.godebug = none := by kernel_rfl
theorem laidOut : laidOutB Try.prog = true := by kernel_rfl

set_option maxRecDepth 100000 in
set_option maxHeartbeats 2000000 in
theorem walk_in (a : Option Addr) (l : List Rule) (n cap : Nat) (p f s : Int) (hl : l.length = n) (hn : n ≤ 1048576) (w : World) (hr : RdU w a l) (hwf : WfU l) (hwp : (Lit.int .i64 p).wf = true) (hwq : (Lit.int .i64 f).wf = true) (hws : (Lit.int .i64 s).wf = true) :
    Calls Try.prog 5 #[.slice a n cap, .int .i64 p, .int .i64 f, .int .i64 s] w fun e w' => e = .returned (.bool true) ∧ Below w.heap.size w w' := by
  have HL : Hid (l.length = n) := hl
  have HR : Hid (RdU w a l) := hr
  have HWF : Hid (WfU l) := hwf
  have hm : n ≤ 9223372036854775807 := by omega
  have HLE : Hid ((if n ≤ 1048576 then 1048576 - (n : Int) else -1) = 1048576 - n) := if_pos hn
  have HPW : Hid (wfI p ∧ wfI f) := ⟨hwp, hwq⟩
  clear hwp hwq hws
  clear hl hr hwf
  have HW0 : Hid (Below w.heap.size w w) := Below.refl _ _
  go_enter Try.func5, Try.ntmps5
  go_wp2_with fail
  refine (szUs a n cap hm _).mono ?_
  rintro e wx ⟨rfl, hwx⟩
  have hwy := hwx.symm
  subst hwy
  clear hwx
  rw [HLE.out]
  go_wp2_with fail
  refine (toUs a l n cap HL.out hn _ (HR.out.keep HW0.out (Nat.le_refl _))).mono ?_
  rintro e w1 ⟨rfl, hrow1, hb1⟩
  have HW1 : Hid (Below w.heap.size w w1) := bel_on (Nat.le_refl _) HW0.out hb1
  have HX1 : Hid (RdU w1 (some ⟨w.heap.size, 0, none⟩) l) := hrow1.rd
  clear hb1 hrow1 HW0
  go_wp2_with fail
  refine (actS (some ⟨w.heap.size, 0, none⟩) l n n p f s HL.out hn _ HX1.out).mono ?_
  rintro e w2 ⟨rfl, hb2⟩
  have HW2 : Hid (Below w.heap.size w w2) := bel_on (Nat.le_refl _) HW1.out hb2
  clear hb2 HW1 HX1
  go_wp2_with fail
  refine (toUs a l n cap HL.out hn _ (HR.out.keep HW2.out (Nat.le_refl _))).mono ?_
  rintro e w4 ⟨rfl, hrow4, hb4⟩
  have HW4 : Hid (Below w.heap.size w w4) := bel_on (Nat.le_refl _) HW2.out hb4
  obtain ⟨g4, hg4⟩ : ∃ k, w2.heap.size = k := ⟨_, rfl⟩
  rw [hg4] at hrow4 ⊢
  have HX4 : Hid (RdU w4 (some ⟨g4, 0, none⟩) l) := hrow4.rd
  clear hb4 hrow4 HW2 hg4
  go_wp2_with fail
  refine (actI (some ⟨g4, 0, none⟩) l n n p f s HL.out hn HWF.out HPW.out.1 HPW.out.2 _ HX4.out).mono ?_
  rintro e w5 ⟨rfl, hb5⟩
  have HW5 : Hid (Below w.heap.size w w5) := bel_on (Nat.le_refl _) HW4.out hb5
  have HX5 : Hid (RdU w5 (some ⟨g4, 0, none⟩) l) := HX4.out.on hb5
  clear hb5 HW4 HX4
  have hbb : (actR l p f s != actR l p f s) = false := by simp
  go_wp2_with fail
  refine (toUs a l n cap HL.out hn _ (HR.out.keep HW5.out (Nat.le_refl _))).mono ?_
  rintro e w8 ⟨rfl, hrow8, hb8⟩
  obtain ⟨g8, hg8⟩ : ∃ k, w5.heap.size = k := ⟨_, rfl⟩
  rw [hg8] at hrow8 ⊢
  have HW8 : Hid (Below w.heap.size w w8) := bel_on (Nat.le_refl _) HW5.out hb8
  have HX8 : Hid (RdU w8 (some ⟨g4, 0, none⟩) l) := HX5.out.on hb8
  have HY8 : Hid (RdU w8 (some ⟨g8, 0, none⟩) l) := hrow8.rd
  clear hb8 hrow8 HW5 HX5 hg8
  go_wp2_with fail
  refine (eqUs (some ⟨g4, 0, none⟩) (some ⟨g8, 0, none⟩) l n n n HL.out hn _ HX8.out HY8.out).mono ?_
  rintro e w9 ⟨rfl, hb9⟩
  have HW9 : Hid (Below w.heap.size w w9) := bel_on (Nat.le_refl _) HW8.out hb9
  clear hb9 HW8 HX8 HY8
  go_wp2
  go_ret
  exact ⟨rfl, HW9.out⟩

theorem walk (a : Option Addr) (len cap : Nat) (z : List Rule) (p f s : Int) (w : World) (h : IsRules w a len cap z) (hwp : (Lit.int .i64 p).wf = true) (hwq : (Lit.int .i64 f).wf = true) (hws : (Lit.int .i64 s).wf = true) :
    Calls Try.prog 5 #[.slice a len cap, .int .i64 p, .int .i64 f, .int .i64 s] w fun e w' => e = .returned (.bool true) ∧ Below w.heap.size w w' := by
  obtain ⟨hl, hc, hm, hr, hwf⟩ := h
  by_cases hn : len ≤ 1048576
  · exact walk_in a z len cap p f s hl hn w hr hwf hwp hwq hws
  · clear hr hl hc hwf
    have HLE : Hid ((if len ≤ 1048576 then 1048576 - (len : Int) else -1) = -1) := if_neg hn
    go_enter Try.func5, Try.ntmps5
    go_wp2_with fail
    refine (szUs a len cap hm _).mono ?_
    rintro e w1 ⟨rfl, rfl⟩
    rw [HLE.out]
    go_wp2
    go_ret
    exact ⟨rfl, Below.refl _ _⟩

set_option maxRecDepth 100000 in
theorem lifted (os : Os) (started : os.Started) (H : Type) (enc : TypeId × Value → H) :
    ReturnsInHanded {} Try.checked os 5 .any (Rows.fnExactActForSpec.pre6 enc Try.prog Try.f5 Rows.fnExactActForRow.domain false) (Rows.fnExactActForSpec.post enc Try.prog Try.f5 false true false false) := by
  refine returnsInHanded_of_change (C := Try.checked) own started (by kernel_rfl) Try.func5
    (ChangeSpec.witness6 (enc := enc) (C := Try.checked) false ⟨#[], #[.slice none 0 0, .int .i64 0, .int .i64 0, .int .i64 0], []⟩ 8 (by kernel_rfl) (by kernel_rfl) (by kernel_rfl) (by kernel_rfl)) ?_
  intro W base args ds gs before hval0 hW hcnd _
  have hval : ∀ (j : Nat) t v, Try.f5.params[j]? = some t → args[j]? = some v → Value.okWide Try.prog W .any base t v := hval0
  have hW' := hW
  obtain ⟨p, q, hA0, hV, rfl, hfz, hnd⟩ := hW
  have hA : DataW.TrodAll enc Try.prog W 0 (fun _ => true) true Try.f5.params.toList args.toList ds p := hA0
  rw [Try.params5] at hA hval
  obtain ⟨v0, vs0, d0, ds0, p0, q0, hargs, rfl, rfl, h0, r0⟩ := trodAll_cons hA
  obtain ⟨v1, vs1, d1, ds1, p1, q1, rfl, rfl, rfl, h1, r1⟩ := trodAll_cons r0
  obtain ⟨v2, vs2, d2, ds2, p2, q2, rfl, rfl, rfl, h2, r2⟩ := trodAll_cons r1
  obtain ⟨v3, vs3, d3, ds3, p3, q3, rfl, rfl, rfl, h3, r3⟩ := trodAll_cons r2
  obtain ⟨rfl, rfl, rfl⟩ := trodAll_nil r3
  obtain rfl : args = #[v0, v1, v2, v3] := by cases args; simp_all
  obtain ⟨rfl, rfl⟩ := trodVars_none hV
  have k0 := h0
  have lt0 : ∀ x ∈ p0, x.block < W.heap.size := by obtain ⟨m, hm⟩ := k0; exact DataW.trod_lt m _ _ _ hm
  obtain ⟨a0, len0, cap0, z0, rfl, w0⟩ := open_rules (hval 0 31 v0 rfl rfl) h0
  obtain ⟨a1, rfl, rfl, rfl, w1⟩ := open_int Try.underlying3 (hval 1 3 v1 rfl rfl) h1
  obtain ⟨a2, rfl, rfl, rfl, w2⟩ := open_int Try.underlying3 (hval 2 3 v2 rfl rfl) h2
  obtain ⟨a3, rfl, rfl, rfl, w3⟩ := open_int Try.underlying3 (hval 3 3 v3 rfl rfl) h3
  clear hA0 hval0
  refine (walk a0 len0 cap0 z0 a1 a2 a3 W w0 w1 w2 w3).mono fun e W' ⟨he, bel⟩ => ?_
  subst he
  exact ⟨_, rfl, _, _, _, [], _, [], hW', trodAll_mk1 (shut_bool Try.underlying4 _), (trodAll_cons_mk (Below.trod laidOut (by kernel_rfl) (of_decide_eq_true (by kernel_rfl)) k0 bel lt0) (trodAll_cons_mk (shut_int Try.underlying3 w1) (trodAll_cons_mk (shut_int Try.underlying3 w2) (trodAll_cons_mk (shut_int Try.underlying3 w3) trodAll_mk0)))), rfl, bel.frame _, fun h => by cases h⟩

theorem over : Rows.fnExactActForRow.holds Try.pinned (OpenSpec.ofChange Rows.fnExactActForSpec) :=
  OpenClaim.holds_of_wide 5 Try.f5 rfl rfl rfl rfl rfl rfl rfl ⟨rfl, rfl, rfl, rfl, rfl⟩ rfl rfl rfl rfl rfl (by kernel_rfl) Try.func5 (by kernel_rfl)
    (of_decide_eq_true (by kernel_rfl)) (by unfold Func.isWrapper; first | (rw [if_pos (by decide +kernel)]; kernel_rfl) | (rw [if_neg (by decide +kernel)]; exact ⟨rfl, rfl⟩))
    (fun os started H enc _ => lifted os started H enc)

end Go.Proofs.Ytoflahejiempfaa.fnExactActFor
namespace Go.Proofs.Ytoflahejiempfaa
theorem fnExactActFor_holds : Rows.FnExactActForSaid :=
  fnExactActFor.over
#print axioms fnExactActFor_holds
end Go.Proofs.Ytoflahejiempfaa
