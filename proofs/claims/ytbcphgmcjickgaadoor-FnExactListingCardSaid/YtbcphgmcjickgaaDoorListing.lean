/-
  Proved: the tied card of FnExactListing: for every list of instructions the call returns true: Listing of the program answers as that of the specification (lists of more than 1048576 instructions the law itself lets by), and it writes into no argument. Conditions: the listed tables hold what their own initialisers lay (the card ties them to the text of the pruned copy of the project).
-/
import Derived.Test.YtbcphgmcjickgaaDoorCards
import Derived.Test.YtbcphgmcjickgaaDoorTie
import Derived.Test.YtbcphgmcjickgaaDoorALaid
import Derived.Test.YtbcphgmcjickgaaDoorList5
import Derived.OpenShut
import Derived.OpenVars
import Derived.ChangeVars
import Derived.ShutString
import Derived.ChangeOld
import Derived.Below
import Derived.Deep.DeepHandedRow
import Derived.Lib.LaidTab
namespace Go.Proofs.YtbcphgmcjickgaaDoor.fnExactListing
open Go.ChangeShapes Go.WideShapes Go.ChangeAt Go.RowKit Go.PlainAid
open Go.ChangeMaps (open_string shut_string)
set_option linter.unusedVariables false

theorem own : ownKnob Tryd.prog.godebug = none := by kernel_rfl
theorem laidOut : laidOutB Tryd.prog = true := by kernel_rfl
theorem table {W : World} (h : laidMetH Tryd.prog Rows.fnExactListingRow.laid W) : TabA W := tables_of h

set_option maxRecDepth 100000 in
set_option maxHeartbeats 1000000 in
theorem walk (a : Option Addr) (len cap : Nat) (rl : List (Int × Int)) (w : World) (h : IsRegs w a len cap rl) (ht : TabA w) :
    Calls Tryd.prog 7 #[.slice a len cap] w fun e w' => e = .returned (.bool true) ∧ Below w.heap.size w w' := by
  obtain ⟨hl, hc, hm, hr⟩ := h
  have HTA : Hid (TabA w) := ht
  clear ht
  by_cases hn : len ≤ 1048576
  · have HL : Hid (rl.length = len) := hl
    have HR : Hid (RdR w a rl) := hr
    obtain ⟨b, hB⟩ := ls_bool rl
    have HB : Hid (b = true ↔ LsOk rl) := hB
    obtain ⟨s, hs⟩ : ∃ s : ByteArray, lsV rl b = .tuple #[.string s, .bool b] := by cases b <;> exact ⟨_, rfl⟩
    clear hl hr hB
    go_enter Tryd.func7, Tryd.ntmps7
    go_wp2_with fail
    refine (szRs a len cap hm _).mono ?_
    rintro e w1 ⟨rfl, rfl⟩
    rw [if_pos hn]
    go_wp2_with fail
    refine (toRs a rl len cap HL.out hn _ HR.out).mono ?_
    rintro e w2 ⟨rfl, hrow2, hb2⟩
    have HW2 : Hid (Below w1.heap.size w1 w2) := hb2
    have HR2 : Hid (RowR w2 w1.heap.size rl) := hrow2
    clear hrow2 hb2
    go_wp2_with fail
    refine (listS (some ⟨w1.heap.size, 0, none⟩) rl len len b HL.out hm HB.out _ HR2.out.rd).mono ?_
    rintro e w3 ⟨rfl, hb3⟩
    rw [hs]
    have HW3 : Hid (Below w1.heap.size w1 w3) := bel_on (Nat.le_refl _) HW2.out hb3
    clear HR2 hb3 HW2
    go_wp2_with fail
    refine (toRs a rl len cap HL.out hn _ (HR.out.keep HW3.out (Nat.le_refl _))).mono ?_
    rintro e w4 ⟨rfl, hrow4, hb4⟩
    have HW4 : Hid (Below w1.heap.size w1 w4) := bel_on (Nat.le_refl _) HW3.out hb4
    have HR4 : Hid (RowR w4 w3.heap.size rl) := hrow4
    clear hrow4 hb4 HW3
    go_wp2_with fail
    refine (listI (some ⟨w3.heap.size, 0, none⟩) rl len len b HL.out hm HB.out _ HR4.out.rd (tabA_below HTA.out HW4.out)).mono ?_
    rintro e w5 ⟨rfl, hb5⟩
    rw [hs]
    have HW5 : Hid (Below w1.heap.size w1 w5) := bel_on (Nat.le_refl _) HW4.out hb5
    have HR5 : Hid (RowR w5 w3.heap.size rl) := HR4.out.on hb5
    clear hb5 HW4 HR4 hs
    go_wp2_with fail
    refine (toRs a rl len cap HL.out hn _ (HR.out.keep HW5.out (Nat.le_refl _))).mono ?_
    rintro e w6 ⟨rfl, hrow6, hb6⟩
    have HW6 : Hid (Below w1.heap.size w1 w6) := bel_on (Nat.le_refl _) HW5.out hb6
    have HR6 : Hid (RowR w6 w5.heap.size rl) := hrow6
    have HX6 : Hid (RowR w6 w3.heap.size rl) := HR5.out.on hb6
    clear hrow6 hb6 HW5 HR5
    go_wp2_with fail
    refine (eqRs w3.heap.size w5.heap.size rl len len len HL.out hn _ HX6.out HR6.out).mono ?_
    rintro e w7 ⟨rfl, hb7⟩
    have HW7 : Hid (Below w1.heap.size w1 w7) := bel_on (Nat.le_refl _) HW6.out hb7
    clear hb7 HW6 HR6 HX6
    go_wp2
    go_ret
    exact ⟨rfl, HW7.out⟩
  · clear hr hl hc
    go_enter Tryd.func7, Tryd.ntmps7
    go_wp2_with fail
    refine (szRs a len cap hm _).mono ?_
    rintro e w1 ⟨rfl, rfl⟩
    rw [if_neg hn]
    go_wp2
    go_ret
    exact ⟨rfl, Below.refl _ _⟩

set_option maxRecDepth 100000 in
theorem contract (H : Type) (enc : TypeId × Value → H) (W : World) (base : Nat) (args : Array Value) (ds gs : List (DataW H)) (before : List MemPlace)
    (hval : ∀ (j : Nat) t v, Tryd.f7.params[j]? = some t → args[j]? = some v → Value.okWide Tryd.prog W .any base t v)
    (hW : DataW.Whole enc Tryd.prog Tryd.f7.params.toList Rows.fnExactListingSpec.vars false W args.toList ds gs before) (hL : laidMetH Tryd.prog Rows.fnExactListingRow.laid W) :
    Calls Tryd.prog 7 args W fun e W' => ∃ v, e = .returned v ∧ Rows.fnExactListingSpec.post enc Tryd.prog Tryd.f7 false true false false W args v W' := by
  have hW' := hW
  obtain ⟨p, q, hA0, hV, rfl, hfz, hnd⟩ := hW
  have hA : DataW.TrodAll enc Tryd.prog W 0 (fun _ => true) true Tryd.f7.params.toList args.toList ds p := hA0
  rw [Tryd.params7] at hA hval
  obtain ⟨v0, vs0, d0, ds0, p0, q0, hargs, rfl, rfl, h0, r0⟩ := trodAll_cons hA
  obtain ⟨rfl, rfl, rfl⟩ := trodAll_nil r0
  obtain rfl : args = #[v0] := by cases args; simp_all
  have hV' : DataW.TrodVars enc Tryd.prog W (fun _ => true) ["loop.example/g00200/impl.opNames"] gs q := hV
  obtain ⟨gv, tv, csv, fuelv, dv, pv, rfl, _, _, _, _, rfl⟩ := trodVars_one hV'
  have k0 := h0
  have lt0 : ∀ x ∈ p0, x.block < W.heap.size := by obtain ⟨m, hm⟩ := k0; exact DataW.trod_lt m _ _ _ hm
  obtain ⟨a0, len0, cap0, z0, rfl, w0⟩ := open_regions (hval 0 39 v0 rfl rfl) h0
  clear hA0
  refine (walk a0 len0 cap0 z0 W w0 (table hL)).mono fun e W' ⟨he, bel⟩ => ?_
  subst he
  exact ⟨_, rfl, _, _, _, [], _, _, hW', trodAll_mk1 (shut_bool Tryd.underlying4 _), (trodAll_cons_mk (Below.trod laidOut (by kernel_rfl) (of_decide_eq_true (by kernel_rfl)) k0 bel lt0) trodAll_mk0), bel.trodVars laidOut (by kernel_rfl) hV, bel.frame _, fun h => by cases h⟩

set_option maxRecDepth 100000 in
theorem laid_met (os : Os) : laidMet Tryd.prog Rows.fnExactListingRow.laid ((layA (World.holding Tryd.prog os ⟨#[], #[], []⟩)).forCall (fun _ _ => 0) ⟨#[], #[.slice none 0 0], []⟩).memory :=
  laidMet_of_run' 8 (by kernel_rfl) (by kernel_rfl)
set_option maxRecDepth 100000 in
theorem reads (os : Os) {H : Type} (enc : TypeId × Value → H) : ∃ places, DataW.whole enc Tryd.prog ((layA (World.holding Tryd.prog os ⟨#[], #[], []⟩)).forCall (fun _ _ => 0) ⟨#[], #[.slice none 0 0], []⟩).memory Tryd.f7.params.toList Rows.fnExactListingSpec.vars false #[Value.slice none 0 0].toList 8 = some ([.nil], [Rows.laid_loop_example_g00200_impl_opNames], places) :=
  ⟨MemPlace.row ⟨0, 0, none⟩ 18, by kernel_rfl⟩

set_option maxRecDepth 100000 in
theorem lifted (os : Os) (started : os.Started) (H : Type) (enc : TypeId × Value → H) (F : Stop.Interp) :
    ReturnsInHanded {} Tryd.checked os 7 .any ((OpenSpec.ofChange Rows.fnExactListingSpec).preRow enc Tryd.prog Tryd.f7 Rows.fnExactListingRow.domain false Rows.fnExactListingRow.laid) (((OpenSpec.ofChange Rows.fnExactListingSpec).at F).post enc Tryd.prog Tryd.f7 false true false false) := by
  obtain ⟨places, hx⟩ := reads os enc
  refine returnsInHanded_of_row (C := Tryd.checked) (s := OpenSpec.ofChange Rows.fnExactListingSpec) own started (by kernel_rfl) Tryd.func7
    (witness_row_at (enc := enc) (C := Tryd.checked) false (layA (World.holding Tryd.prog os ⟨#[], #[], []⟩)) #[.slice none 0 0] rfl (by kernel_rfl) (by kernel_rfl) (by kernel_rfl)
      (OpenSpec.preRow_of_cond 8 hx (by kernel_rfl) (fun k hk => by cases hk) (by kernel_rfl) (laid_met os))) ?_
  intro W base args ds gs before hval hW _ _ _ hL _ _
  exact contract H enc W base args ds gs before hval hW hL

theorem said : Rows.FnExactListingSaid :=
  OpenClaim.holds_of_cond 7 Tryd.f7 rfl rfl rfl rfl rfl rfl rfl ⟨rfl, rfl, rfl, rfl, rfl⟩ rfl rfl rfl rfl rfl (by kernel_rfl) Tryd.func7 (by kernel_rfl)
    (of_decide_eq_true (by kernel_rfl)) (by unfold Func.isWrapper; first | (rw [if_pos (by decide +kernel)]; kernel_rfl) | (rw [if_neg (by decide +kernel)]; exact ⟨rfl, rfl⟩))
    (fun os started H enc _ F => by rw [OpenClaim.pre_eq_preRow]; exact lifted os started H enc F)

theorem plain (f : FuncId) (fn : Func) (hf : Tryd.pinned.checked.prog.funcNamed Rows.fnExactListingRow.func = some f) (hfn : Tryd.pinned.checked.prog.funcs[f]? = some fn) :
    false = Tryd.pinned.checked.prog.looks [] ∧ ∀ (j : Nat) t, fn.params[j]? = some t → Tryd.pinned.checked.prog.wantsStandIn t = false := by
  obtain rfl : f = 7 := Option.some.inj ((show Tryd.prog.funcNamed Rows.fnExactListingRow.func = some 7 by kernel_rfl).symm.trans hf) |>.symm
  obtain rfl : fn = Tryd.f7 := (Option.some.inj (Tryd.func7.symm.trans hfn)).symm
  refine ⟨by kernel_rfl, fun j t ht => ?_⟩
  rw [Tryd.params7] at ht
  obtain rfl : t = 39 := by simpa using Array.mem_of_getElem? ht
  exact (show Tryd.prog.wantsStandIn 39 = false by kernel_rfl)

theorem card : Rows.FnExactListingCardSaid :=
  Claim7.holds_tied_plain_at .later [] _ _ _ _ said (fun _ h => by cases h) (by kernel_rfl) (fun _ h => by cases h) fnExactListing_row_tie rfl ⟨rfl, rfl⟩ (by kernel_rfl) rfl plain (by kernel_rfl)

end Go.Proofs.YtbcphgmcjickgaaDoor.fnExactListing
namespace Go.Proofs.YtbcphgmcjickgaaDoor
theorem fnExactListing_card : Rows.FnExactListingCardSaid :=
  fnExactListing.card
#print axioms fnExactListing_card
end Go.Proofs.YtbcphgmcjickgaaDoor
