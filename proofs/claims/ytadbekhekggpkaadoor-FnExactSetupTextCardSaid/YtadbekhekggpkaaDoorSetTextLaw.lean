/-
  Proved: the tied card: for every set-up the call of FnExactSetupText returns true: SetupText of the program answers as that of the specification (set-ups that hold more than 1048576 things the law itself lets by), and it writes into no argument. Conditions: errors.errorType holds what its own initialiser lays, the handle of the type error (the card ties it to the text of the pruned copy of the project).
-/
import Derived.Test.YtadbekhekggpkaaDoorCards
import Derived.Test.YtadbekhekggpkaaDoorTie
import Derived.Test.YtadbekhekggpkaaDoorTextS
import Derived.Test.YtadbekhekggpkaaDoorTextI
import Derived.Test.YtadbekhekggpkaaDoorHLaid
import Derived.Test.YtadbekhekggpkaaDoorSetO11
import Derived.Test.YtadbekhekggpkaaDoorSetLW
import Derived.OpenShut
import Derived.OpenVars
import Derived.ChangeVars
import Derived.ShutString
import Derived.ChangeOld
import Derived.Below
import Derived.Deep.DeepHandedRow
import Derived.Lib.LaidTab
namespace Go.Proofs.YtadbekhekggpkaaDoor.fnExactSetupText
open Go.ChangeShapes Go.WideShapes Go.ChangeAt Go.RowKit Go.PlainAid
open Go.ChangeMaps (open_string shut_string)
set_option linter.unusedVariables false

theorem own : ownKnob Tryd.prog.godebug = none := by kernel_rfl
theorem laidOut : laidOutB Tryd.prog = true := by kernel_rfl

theorem sm_of {w w' : World} {s s' : SH} {X : SX} (h : SmX s X) (hr : RdX w s X) (hr' : RdX w' s' X) : SmX s' X :=
  ⟨by rw [← hr'.l0, hr.l0]; exact h.n0, by rw [← hr'.l1, hr.l1]; exact h.n1, by rw [← hr'.l2, hr.l2]; exact h.n2, by rw [← hr'.l3, hr.l3]; exact h.n3, by rw [← hr'.l4, hr.l4]; exact h.n4, h.b⟩
set_option maxRecDepth 100000 in
set_option maxHeartbeats 2000000 in
theorem walk (s : SH) (X : SX) (w : World) (h : IsSet w s X) (hg : Hnd w) :
    Calls Tryd.prog 5 #[SetV s] w fun e w' => e = .returned (.bool true) ∧ Below w.heap.size w w' := by
  obtain ⟨q0, n0, c0, q1, n1, c1, q2, n2, c2, q3, n3, c3, q4, n4, c4⟩ := s
  have HX : Hid (IsSet w ⟨q0, n0, c0, q1, n1, c1, q2, n2, c2, q3, n3, c3, q4, n4, c4⟩ X) := h
  have HG : Hid (Hnd w) := hg
  have HWa : Hid (Below w.heap.size w (w.alloc (.cells #[.slice q0 n0 c0, .slice q1 n1 c1, .slice q2 n2 c2, .slice q3 n3 c3, .slice q4 n4 c4] 44))) := (Below.refl _ _).alloc (Nat.le_refl _) _
  have HAa : Hid ((w.alloc (.cells #[.slice q0 n0 c0, .slice q1 n1 c1, .slice q2 n2 c2, .slice q3 n3 c3, .slice q4 n4 c4] 44)).heap[w.heap.size]? = some (.cells #[.slice q0 n0 c0, .slice q1 n1 c1, .slice q2 n2 c2, .slice q3 n3 c3, .slice q4 n4 c4] 44)) := heap_new w _
  clear h hg
  unfold SetV
  dsimp only
  go_enter Tryd.func5, Tryd.ntmps5
  have kpa := boxO_cells HAa.out
  go_wp2_with fail
  refine (szSet ⟨q0, n0, c0, q1, n1, c1, q2, n2, c2, q3, n3, c3, q4, n4, c4⟩ X _ (HX.out.rd.keep HWa.out (Nat.le_refl _)) HX.out.lim).mono ?_
  rintro e w0 ⟨r, rfl, hr, hb0⟩
  have HW0 : Hid (Below w.heap.size w w0) := bel_on (Nat.le_refl _) HWa.out hb0
  have HA0 : Hid (w0.heap[w.heap.size]? = some (.cells #[.slice q0 n0 c0, .slice q1 n1 c1, .slice q2 n2 c2, .slice q3 n3 c3, .slice q4 n4 c4] 44)) := row_on HAa.out hb0
  have kp0 := boxO_cells HA0.out
  clear HWa HAa kpa
  clear hb0
  rcases hr with rfl | ⟨hr0, hs⟩
  · go_wp2
    go_ret
    exact ⟨rfl, HW0.out⟩
  have HS : Hid (SmX ⟨q0, n0, c0, q1, n1, c1, q2, n2, c2, q3, n3, c3, q4, n4, c4⟩ X) := hs
  have hr1 : ¬ r < 0 := by omega
  clear hs hr0
  obtain ⟨tv, tb, htx⟩ : ∃ tv tb, TextX X tv tb := text_ex X
  have HF : Hid (TextX X tv tb) := htx
  clear htx
  go_wp2_with fail
  refine (toSet ⟨q0, n0, c0, q1, n1, c1, q2, n2, c2, q3, n3, c3, q4, n4, c4⟩ X _ (HX.out.rd.keep HW0.out (Nat.le_refl _)) HS.out).mono ?_
  rintro e w1 ⟨s1, rfl, hrd1, _, hb1⟩
  have HX1 : Hid (RdX w1 s1 X) := hrd1
  have HS1 : Hid (SmX s1 X) := sm_of HS.out HX.out.rd hrd1
  have HW1 : Hid (Below w.heap.size w w1) := bel_on (Nat.le_refl _) HW0.out hb1
  have HA1 : Hid (w1.heap[w.heap.size]? = some (.cells #[.slice q0 n0 c0, .slice q1 n1 c1, .slice q2 n2 c2, .slice q3 n3 c3, .slice q4 n4 c4] 44)) := row_on HA0.out hb1
  have kp1 := boxO_cells HA1.out
  clear HW0 HA0 kp0
  clear hb1 hrd1 hr1
  go_wp2_with fail
  refine (textS s1 X tv tb HF.out _ HX1.out HS1.out HX.out.wf).mono ?_
  rintro e w2 ⟨rfl, hb2⟩
  have HW2 : Hid (Below w.heap.size w w2) := bel_on (Nat.le_refl _) HW1.out hb2
  have HA2 : Hid (w2.heap[w.heap.size]? = some (.cells #[.slice q0 n0 c0, .slice q1 n1 c1, .slice q2 n2 c2, .slice q3 n3 c3, .slice q4 n4 c4] 44)) := row_on HA1.out hb2
  have kp2 := boxO_cells HA2.out
  clear HW1 HA1 kp1
  clear hb2 HX1 HS1
  go_wp2_with fail
  refine (toSet ⟨q0, n0, c0, q1, n1, c1, q2, n2, c2, q3, n3, c3, q4, n4, c4⟩ X _ (HX.out.rd.keep HW2.out (Nat.le_refl _)) HS.out).mono ?_
  rintro e w4 ⟨s4, rfl, hrd4, hk4, hb4⟩
  have HW4 : Hid (Below w.heap.size w w4) := bel_on (Nat.le_refl _) HW2.out hb4
  have HA4 : Hid (w4.heap[w.heap.size]? = some (.cells #[.slice q0 n0 c0, .slice q1 n1 c1, .slice q2 n2 c2, .slice q3 n3 c3, .slice q4 n4 c4] 44)) := row_on HA2.out hb4
  have kp4 := boxO_cells HA4.out
  clear HW2 HA2 kp2
  have HS4 : Hid (SmX s4 X) := sm_of HS.out HX.out.rd hrd4
  have HK4 : Hid (s4.n0 ≤ s4.c0) := hk4
  clear hk4
  obtain ⟨a0, m0, d0, a1, m1, d1, a2, m2, d2, a3, m3, d3, a4, m4, d4⟩ := s4
  obtain ⟨gB, hgB⟩ : ∃ k, w4.heap.size = k := ⟨_, rfl⟩
  have hal : Below w4.heap.size w4 (w4.alloc (.cells #[.slice a0 m0 d0, .slice a1 m1 d1, .slice a2 m2 d2, .slice a3 m3 d3, .slice a4 m4 d4] 30)) := (Below.refl _ _).alloc (Nat.le_refl _) _
  have HWb : Hid (Below w.heap.size w (w4.alloc (.cells #[.slice a0 m0 d0, .slice a1 m1 d1, .slice a2 m2 d2, .slice a3 m3 d3, .slice a4 m4 d4] 30))) := bel_on (Nat.le_refl _) HW4.out hal
  have HAb : Hid ((w4.alloc (.cells #[.slice a0 m0 d0, .slice a1 m1 d1, .slice a2 m2 d2, .slice a3 m3 d3, .slice a4 m4 d4] 30)).heap[w.heap.size]? = some (.cells #[.slice q0 n0 c0, .slice q1 n1 c1, .slice q2 n2 c2, .slice q3 n3 c3, .slice q4 n4 c4] 44)) := row_on HA4.out hal
  have HBb : Hid ((w4.alloc (.cells #[.slice a0 m0 d0, .slice a1 m1 d1, .slice a2 m2 d2, .slice a3 m3 d3, .slice a4 m4 d4] 30)).heap[gB]? = some (.cells #[.slice a0 m0 d0, .slice a1 m1 d1, .slice a2 m2 d2, .slice a3 m3 d3, .slice a4 m4 d4] 30)) := by rw [← hgB]; exact heap_new w4 _
  have HXBb : Hid (RdX (w4.alloc (.cells #[.slice a0 m0 d0, .slice a1 m1 d1, .slice a2 m2 d2, .slice a3 m3 d3, .slice a4 m4 d4] 30)) ⟨a0, m0, d0, a1, m1, d1, a2, m2, d2, a3, m3, d3, a4, m4, d4⟩ X) := hrd4.on hal
  have kpb := boxO_cells HAb.out
  have kbb := boxO_cells HBb.out
  clear hb4 hrd4 hal HW4 HA4
  unfold SetV
  dsimp only
  subst hgB
  go_wp2_with fail
  refine (textI ⟨a0, m0, d0, a1, m1, d1, a2, m2, d2, a3, m3, d3, a4, m4, d4⟩ X tv tb HF.out _ HXBb.out HS4.out HX.out.wf HK4.out (HG.out.on HWb.out)).mono ?_
  rintro e w5 ⟨rfl, hb5⟩
  obtain ⟨gB, hgB⟩ : ∃ k, w4.heap.size = k := ⟨_, rfl⟩
  rw [hgB] at HBb ⊢
  have HW5 : Hid (Below w.heap.size w w5) := bel_on (Nat.le_refl _) HWb.out hb5
  have HA5 : Hid (w5.heap[w.heap.size]? = some (.cells #[.slice q0 n0 c0, .slice q1 n1 c1, .slice q2 n2 c2, .slice q3 n3 c3, .slice q4 n4 c4] 44)) := row_on HAb.out hb5
  have kp5 := boxO_cells HA5.out
  have HB5 : Hid (w5.heap[gB]? = some (.cells #[.slice a0 m0 d0, .slice a1 m1 d1, .slice a2 m2 d2, .slice a3 m3 d3, .slice a4 m4 d4] 30)) := row_on HBb.out hb5
  have kb5 := boxO_cells HB5.out
  have HXB5 : Hid (RdX w5 ⟨a0, m0, d0, a1, m1, d1, a2, m2, d2, a3, m3, d3, a4, m4, d4⟩ X) := HXBb.out.on hb5
  clear HWb HAb kpb HBb HXBb kbb
  clear hb5 hgB kp4
  have hbb : (tb != tb) = false := by simp
  have HLW : Hid (LW w w5 w.heap.size gB (.cells #[.slice q0 n0 c0, .slice q1 n1 c1, .slice q2 n2 c2, .slice q3 n3 c3, .slice q4 n4 c4] 44) (.cells #[.slice a0 m0 d0, .slice a1 m1 d1, .slice a2 m2 d2, .slice a3 m3 d3, .slice a4 m4 d4] 30) ⟨a0, m0, d0, a1, m1, d1, a2, m2, d2, a3, m3, d3, a4, m4, d4⟩ X) := ⟨HW5.out, HA5.out, HB5.out, HXB5.out⟩
  go_wp2
  clear kp5 kb5 HW5 HA5 HB5 HXB5
  go_region_held3 (fun w' => w'.cell? ⟨w.heap.size, 0, none⟩ = some (.slice q0 n0 c0) ∧ w'.cell? ⟨w.heap.size, 1, none⟩ = some (.slice q1 n1 c1) ∧ w'.cell? ⟨w.heap.size, 2, none⟩ = some (.slice q2 n2 c2) ∧ w'.cell? ⟨w.heap.size, 3, none⟩ = some (.slice q3 n3 c3) ∧ w'.cell? ⟨w.heap.size, 4, none⟩ = some (.slice q4 n4 c4) ∧ w'.cell? ⟨gB, 0, none⟩ = some (.slice a0 m0 d0) ∧ w'.cell? ⟨gB, 1, none⟩ = some (.slice a1 m1 d1) ∧ w'.cell? ⟨gB, 2, none⟩ = some (.slice a2 m2 d2) ∧ w'.cell? ⟨gB, 3, none⟩ = some (.slice a3 m3 d3) ∧ w'.cell? ⟨gB, 4, none⟩ = some (.slice a4 m4 d4) ∧ LW w w' w.heap.size gB (.cells #[.slice q0 n0 c0, .slice q1 n1 c1, .slice q2 n2 c2, .slice q3 n3 c3, .slice q4 n4 c4] 44) (.cells #[.slice a0 m0 d0, .slice a1 m1 d1, .slice a2 m2 d2, .slice a3 m3 d3, .slice a4 m4 d4] 30) ⟨a0, m0, d0, a1, m1, d1, a2, m2, d2, a3, m3, d3, a4, m4, d4⟩ X)
    (first | (with_reducible exact lw_conj HLW.out.drew) | (refine lw_conj (LW.on' (by assumption) (lw_of (by assumption)))))
    (first | (go_at_call 11; refine (toSet ⟨q0, n0, c0, q1, n1, c1, q2, n2, c2, q3, n3, c3, q4, n4, c4⟩ X _ (HX.out.rd.keep (lw_of (by assumption)).b (Nat.le_refl _)) HS.out).mono ?_; rintro e w8 ⟨s8, rfl, hrd8, _, hb8⟩; have HX8 : Hid (RdX w8 s8 X) := hrd8; clear hrd8) | (go_at_call 12; refine (eqSet ⟨a0, m0, d0, a1, m1, d1, a2, m2, d2, a3, m3, d3, a4, m4, d4⟩ s8 X _ (lw_of (by assumption)).x HX8.out HS4.out).mono ?_; rintro e w9 ⟨rfl, hb9⟩))
  rename_i HH
  have HW9 : Hid (Below w.heap.size w w9) := (lw_of HH).b
  clear HH hb8 hb9 HLW HX8
  go_wp2
  go_ret
  exact ⟨rfl, HW9.out⟩

set_option maxRecDepth 100000 in
theorem contract (H : Type) (enc : TypeId × Value → H) (W : World) (base : Nat) (args : Array Value) (ds gs : List (DataW H)) (before : List MemPlace)
    (hval : ∀ (j : Nat) t v, Tryd.f5.params[j]? = some t → args[j]? = some v → Value.okWide Tryd.prog W .any base t v)
    (hW : DataW.Whole enc Tryd.prog Tryd.f5.params.toList Rows.fnExactSetupTextSpec.vars false W args.toList ds gs before) (hL : laidMetH Tryd.prog Rows.fnExactSetupTextRow.laid W) :
    Calls Tryd.prog 5 args W fun e W' => ∃ v, e = .returned v ∧ Rows.fnExactSetupTextSpec.post enc Tryd.prog Tryd.f5 false true false false W args v W' := by
  have hW' := hW
  obtain ⟨p, q, hA0, hV, rfl, hfz, hnd⟩ := hW
  have hA : DataW.TrodAll enc Tryd.prog W 0 (fun _ => true) true Tryd.f5.params.toList args.toList ds p := hA0
  rw [Tryd.params5] at hA hval
  obtain ⟨v0, vs0, d0, ds0, p0, q0, hargs, rfl, rfl, h0, r0⟩ := trodAll_cons hA
  obtain ⟨rfl, rfl, rfl⟩ := trodAll_nil r0
  obtain rfl : args = #[v0] := by cases args; simp_all
  obtain ⟨rfl, rfl⟩ := trodVars_none hV
  have k0 := h0
  have lt0 : ∀ x ∈ p0, x.block < W.heap.size := by obtain ⟨m, hm⟩ := k0; exact DataW.trod_lt m _ _ _ hm
  obtain ⟨s0, X0, rfl, w0⟩ := open_setup (hval 0 44 v0 rfl rfl) h0
  clear hA0
  refine (walk s0 X0 W w0 (handle_of hL)).mono fun e W' ⟨he, bel⟩ => ?_
  subst he
  exact ⟨_, rfl, _, _, _, [], _, [], hW', trodAll_mk1 (shut_bool Tryd.underlying4 _), (trodAll_cons_mk (Below.trod laidOut (by kernel_rfl) (of_decide_eq_true (by kernel_rfl)) k0 bel lt0) trodAll_mk0), rfl, bel.frame _, fun h => by cases h⟩

set_option maxRecDepth 100000 in
theorem laid_met (os : Os) : laidMetH Tryd.prog Rows.fnExactSetupTextRow.laid ((layH (World.holding Tryd.prog os ⟨#[], #[], []⟩)).forCall (fun _ _ => 0) ⟨#[], #[.agg #[.slice none 0 0, .slice none 0 0, .slice none 0 0, .slice none 0 0, .slice none 0 0]], []⟩).memory :=
  laidMetH_of_parts (laidMet_nil _ _) (by kernel_rfl)
set_option maxRecDepth 100000 in
theorem reads (os : Os) {H : Type} (enc : TypeId × Value → H) : ∃ places, DataW.whole enc Tryd.prog ((layH (World.holding Tryd.prog os ⟨#[], #[], []⟩)).forCall (fun _ _ => 0) ⟨#[], #[.agg #[.slice none 0 0, .slice none 0 0, .slice none 0 0, .slice none 0 0, .slice none 0 0]], []⟩).memory Tryd.f5.params.toList Rows.fnExactSetupTextSpec.vars false #[Value.agg #[.slice none 0 0, .slice none 0 0, .slice none 0 0, .slice none 0 0, .slice none 0 0]].toList 8 = some ([.agg [.nil, .nil, .nil, .nil, .nil]], [], places) :=
  ⟨[], by kernel_rfl⟩

set_option maxRecDepth 100000 in
theorem lifted (os : Os) (started : os.Started) (H : Type) (enc : TypeId × Value → H) (F : Stop.Interp) :
    ReturnsInHanded {} Tryd.checked os 5 .any ((OpenSpec.ofChange Rows.fnExactSetupTextSpec).preRow enc Tryd.prog Tryd.f5 Rows.fnExactSetupTextRow.domain false Rows.fnExactSetupTextRow.laid) (((OpenSpec.ofChange Rows.fnExactSetupTextSpec).at F).post enc Tryd.prog Tryd.f5 false true false false) := by
  obtain ⟨places, hx⟩ := reads os enc
  refine returnsInHanded_of_row (C := Tryd.checked) (s := OpenSpec.ofChange Rows.fnExactSetupTextSpec) own started (by kernel_rfl) Tryd.func5
    (witness_row_at (enc := enc) (C := Tryd.checked) false (layH (World.holding Tryd.prog os ⟨#[], #[], []⟩)) #[.agg #[.slice none 0 0, .slice none 0 0, .slice none 0 0, .slice none 0 0, .slice none 0 0]] rfl (by kernel_rfl) (by kernel_rfl) (by kernel_rfl)
      (OpenSpec.preRow_of_cond 8 hx (by kernel_rfl) (fun k hk => by cases hk) (by kernel_rfl) (laid_met os))) ?_
  intro W base args ds gs before hval hW _ _ _ hL _ _
  exact contract H enc W base args ds gs before hval hW hL

theorem said : Rows.FnExactSetupTextSaid :=
  OpenClaim.holds_of_cond 5 Tryd.f5 rfl rfl rfl rfl rfl rfl rfl ⟨rfl, rfl, rfl, rfl, rfl⟩ rfl rfl rfl rfl rfl (by kernel_rfl) Tryd.func5 (by kernel_rfl)
    (of_decide_eq_true (by kernel_rfl)) (by unfold Func.isWrapper; first | (rw [if_pos (by decide +kernel)]; kernel_rfl) | (rw [if_neg (by decide +kernel)]; exact ⟨rfl, rfl⟩))
    (fun os started H enc _ F => by rw [OpenClaim.pre_eq_preRow]; exact lifted os started H enc F)

theorem plain (f : FuncId) (fn : Func) (hf : Tryd.pinned.checked.prog.funcNamed Rows.fnExactSetupTextRow.func = some f) (hfn : Tryd.pinned.checked.prog.funcs[f]? = some fn) :
    true = Tryd.pinned.checked.prog.looks [] ∧ ∀ (j : Nat) t, fn.params[j]? = some t → Tryd.pinned.checked.prog.wantsStandIn t = false := by
  obtain rfl : f = 5 := Option.some.inj ((show Tryd.prog.funcNamed Rows.fnExactSetupTextRow.func = some 5 by kernel_rfl).symm.trans hf) |>.symm
  obtain rfl : fn = Tryd.f5 := (Option.some.inj (Tryd.func5.symm.trans hfn)).symm
  refine ⟨by kernel_rfl, fun j t ht => ?_⟩
  rw [Tryd.params5] at ht
  obtain rfl : t = 44 := by simpa using Array.mem_of_getElem? ht
  exact (show Tryd.prog.wantsStandIn 44 = false by kernel_rfl)

theorem card : Rows.FnExactSetupTextCardSaid :=
  Claim7.holds_tied_plain_at .later [] _ _ _ _ said (fun _ h => by cases h) (by kernel_rfl) (fun _ h => by cases h) fnExactSetupText_row_tie rfl ⟨rfl, rfl⟩ (by kernel_rfl) rfl plain (by kernel_rfl)

end Go.Proofs.YtadbekhekggpkaaDoor.fnExactSetupText
namespace Go.Proofs.YtadbekhekggpkaaDoor
theorem fnExactSetupText_card : Rows.FnExactSetupTextCardSaid :=
  fnExactSetupText.card
#print axioms fnExactSetupText_card
end Go.Proofs.YtadbekhekggpkaaDoor
