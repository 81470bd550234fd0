/-
  Proved: the tied card of FnExactAssemble: for every text the call returns true: Assemble of the program answers as that of the specification (texts of more than 1048576 bytes the law itself lets by), its list is its own and stays so behind a second call, and the argument reads as before. Conditions: the listed tables hold what their own initialisers lay (the card ties them to the text of the pruned copy of the project).
-/
import Derived.Test.YtbcphgmcjickgaaDoorCards
import Derived.Test.YtbcphgmcjickgaaDoorTie
import Derived.Test.YtbcphgmcjickgaaDoorALaid
import Derived.Test.YtbcphgmcjickgaaDoorAsm6
import Derived.OpenShut
import Derived.OpenVars
import Derived.ChangeVars
import Derived.ShutString
import Derived.ChangeOld
import Derived.Below
import Derived.Deep.DeepHandedRow
import Derived.Lib.LaidTab
namespace Go.Proofs.YtbcphgmcjickgaaDoor.fnExactAssemble
open Go.ChangeShapes Go.WideShapes Go.ChangeAt Go.RowKit Go.PlainAid
open Go.ChangeMaps (open_string shut_string)
set_option linter.unusedVariables false

theorem own : ownKnob Tryd.prog.godebug = none := by kernel_rfl
theorem laidOut : laidOutB Tryd.prog = true := by kernel_rfl
theorem table {W : World} (h : laidMetH Tryd.prog Rows.fnExactAssembleRow.laid W) : TabA W := tables_of h

set_option maxRecDepth 100000 in
set_option maxHeartbeats 2000000 in
theorem walk (a0 : ByteArray) (w : World) (w0 : a0.size ≤ maxLen) (ht : TabA w) :
    Calls Tryd.prog 6 #[.string a0] w fun e w' => e = .returned (.bool true) ∧ Below w.heap.size w w' := by
  unfold maxLen at w0
  have HTA : Hid (TabA w) := ht
  clear ht
  by_cases hs : a0.size ≤ 1048576
  · clear w0
    obtain ⟨res, hres⟩ := asm_ex (linesOf a0) 1 []
    have HRS : Hid (AsmR (linesOf a0) 1 [] res) := hres
    have hL := asm_len _ _ _ _ (by simp) hres
    clear hres
    obtain ⟨L, num⟩ := res
    go_enter Tryd.func6, Tryd.ntmps6
    go_wp2_with fail
    refine (assembleS a0 hs (L, num) HRS.out _).mono ?_
    rintro e w1 ⟨W0, rfl, ow1, hb1⟩
    go_wp2_with fail
    refine (assembleI a0 hs (L, num) HRS.out _ (tabA_below HTA.out hb1)).mono ?_
    rintro e w2 ⟨G0, rfl, og2, hb2⟩
    have ow1 : OwnI w1 w.heap.size W0 L := ow1
    have og2 : OwnI w2 w1.heap.size G0 L := og2
    have hL : L.length ≤ 60 := hL
    have ow2 := ow1.on hb2
    obtain ⟨qw, cw, hvw, rw2⟩ := ow2.rd
    obtain ⟨qg, cg, hvg, rg2⟩ := og2.rd
    subst hvw
    subst hvg
    go_wp2_with fail
    refine (eqIn qg qw L L.length cg cw rfl (by omega) _ rg2 rw2).mono ?_
    rintro e w3 ⟨rfl, hb3⟩
    have ow3 := ow2.on hb3
    have og3 := og2.on hb3
    have s1 := hb1.size
    have s2 := hb2.size
    have s3 := hb3.size
    have kw := own_lt ow1
    clear og2 ow2 rw2 rg2
    go_wp2_with fail
    refine (markIn L (.slice qg L.length cg) _ L.length 1 1 rfl rfl (by omega) (by omega) _ og3 (by omega)).mono ?_
    rintro e w4 ⟨rfl, og4, hb4⟩
    have ow4 := ow3.keep hb4 kw
    have s4 := hb4.size
    have rg4 : RdR w4 qg (marksP 1 L.length) := by
      obtain ⟨q', c', hv', hr'⟩ := og4.rd
      rw [marksP_len] at hv'
      cases hv'
      exact hr'
    clear og3 ow3
    go_wp2_with fail
    refine (heldIn qg L.length 1 cg 1 rfl (by omega) (by omega) _ rg4).mono ?_
    rintro e w5 ⟨rfl, rfl⟩
    go_wp2_with fail
    have hB5 : Below w.heap.size w w5 := ((hb1.trans (hb2.mono (by omega))).trans (hb3.mono (by omega))).trans (hb4.mono (by omega))
    refine (assembleI a0 hs (L, num) HRS.out _ (tabA_below HTA.out hB5)).mono ?_
    rintro e w6 ⟨H0, rfl, oh6, hb6⟩
    have hL6 : OwnI w6 w5.heap.size H0 L := oh6
    have ow6 := ow4.on hb6
    have rg6 := rg4.on hb6
    obtain ⟨qw', cw', hvw', rw6⟩ := ow6.rd
    obtain ⟨qh, ch, hvh, rh6⟩ := hL6.rd
    cases hvw'
    subst hvh
    have s6 := hb6.size
    clear ow4 oh6
    go_wp2_with fail
    refine (eqIn qh qw L L.length ch cw rfl (by omega) _ rh6 rw6).mono ?_
    rintro e w7 ⟨rfl, hb7⟩
    have rg7 := rg6.on hb7
    have s7 := hb7.size
    clear ow6 rw6 rh6 rg6 hL6
    go_wp2_with fail
    refine (heldIn qg L.length 1 cg 1 rfl (by omega) (by omega) _ rg7).mono ?_
    rintro e w8 ⟨rfl, rfl⟩
    clear rg7
    have hB : Below w.heap.size w w8 := (((((hb1.trans (hb2.mono (by omega))).trans (hb3.mono (by omega))).trans (hb4.mono (by omega))).trans (hb6.mono (by omega))).trans (hb7.mono (by omega)))
    clear hb1 hb2 hb3 hb4 hb6 hb7 kw ow1
    go_wp2
    go_ret
    exact ⟨rfl, hB⟩
  · go_enter Tryd.func6, Tryd.ntmps6
    go_wp2
    go_ret
    exact ⟨rfl, Below.refl _ _⟩

set_option maxRecDepth 100000 in
theorem contract (H : Type) (enc : TypeId × Value → H) (W : World) (base : Nat) (args : Array Value) (ds gs : List (DataW H)) (before : List MemPlace)
    (hval : ∀ (j : Nat) t v, Tryd.f6.params[j]? = some t → args[j]? = some v → Value.okWide Tryd.prog W .any base t v)
    (hW : DataW.Whole enc Tryd.prog Tryd.f6.params.toList Rows.fnExactAssembleSpec.vars false W args.toList ds gs before) (hL : laidMetH Tryd.prog Rows.fnExactAssembleRow.laid W) :
    Calls Tryd.prog 6 args W fun e W' => ∃ v, e = .returned v ∧ Rows.fnExactAssembleSpec.post enc Tryd.prog Tryd.f6 false true false false W args v W' := by
  have hW' := hW
  obtain ⟨p, q, hA0, hV, rfl, hfz, hnd⟩ := hW
  have hA : DataW.TrodAll enc Tryd.prog W 0 (fun _ => true) true Tryd.f6.params.toList args.toList ds p := hA0
  rw [Tryd.params6] at hA hval
  obtain ⟨v0, vs0, d0, ds0, p0, q0, hargs, rfl, rfl, h0, r0⟩ := trodAll_cons hA
  obtain ⟨rfl, rfl, rfl⟩ := trodAll_nil r0
  obtain rfl : args = #[v0] := by cases args; simp_all
  have hV' : DataW.TrodVars enc Tryd.prog W (fun _ => true) ["loop.example/g00200/impl.opNames"] gs q := hV
  obtain ⟨gv, tv, csv, fuelv, dv, pv, rfl, _, _, _, _, rfl⟩ := trodVars_one hV'
  obtain ⟨a0, rfl, rfl, rfl, w0⟩ := open_string Tryd.underlying9 (hval 0 9 v0 rfl rfl) h0
  clear hA0
  refine (walk a0 W w0 (table hL)).mono fun e W' ⟨he, bel⟩ => ?_
  subst he
  exact ⟨_, rfl, _, _, _, [], _, _, hW', trodAll_mk1 (shut_bool Tryd.underlying4 _), (trodAll_cons_mk (shut_string Tryd.underlying9 w0) trodAll_mk0), bel.trodVars laidOut (by kernel_rfl) hV, bel.frame _, fun h => by cases h⟩

set_option maxRecDepth 100000 in
theorem laid_met (os : Os) : laidMet Tryd.prog Rows.fnExactAssembleRow.laid ((layA (World.holding Tryd.prog os ⟨#[], #[], []⟩)).forCall (fun _ _ => 0) ⟨#[], #[.string ByteArray.empty], []⟩).memory :=
  laidMet_of_run' 8 (by kernel_rfl) (by kernel_rfl)
set_option maxRecDepth 100000 in
theorem reads (os : Os) {H : Type} (enc : TypeId × Value → H) : ∃ places, DataW.whole enc Tryd.prog ((layA (World.holding Tryd.prog os ⟨#[], #[], []⟩)).forCall (fun _ _ => 0) ⟨#[], #[.string ByteArray.empty], []⟩).memory Tryd.f6.params.toList Rows.fnExactAssembleSpec.vars false #[Value.string ByteArray.empty].toList 8 = some ([.lit (.string [])], [Rows.laid_loop_example_g00200_impl_opNames], places) :=
  ⟨MemPlace.row ⟨0, 0, none⟩ 18, by kernel_rfl⟩

set_option maxRecDepth 100000 in
theorem lifted (os : Os) (started : os.Started) (H : Type) (enc : TypeId × Value → H) (F : Stop.Interp) :
    ReturnsInHanded {} Tryd.checked os 6 .any ((OpenSpec.ofChange Rows.fnExactAssembleSpec).preRow enc Tryd.prog Tryd.f6 Rows.fnExactAssembleRow.domain false Rows.fnExactAssembleRow.laid) (((OpenSpec.ofChange Rows.fnExactAssembleSpec).at F).post enc Tryd.prog Tryd.f6 false true false false) := by
  obtain ⟨places, hx⟩ := reads os enc
  refine returnsInHanded_of_row (C := Tryd.checked) (s := OpenSpec.ofChange Rows.fnExactAssembleSpec) own started (by kernel_rfl) Tryd.func6
    (witness_row_at (enc := enc) (C := Tryd.checked) false (layA (World.holding Tryd.prog os ⟨#[], #[], []⟩)) #[.string ByteArray.empty] rfl (by kernel_rfl) (by kernel_rfl) (by kernel_rfl)
      (OpenSpec.preRow_of_cond 8 hx (by kernel_rfl) (fun k hk => by cases hk) (by kernel_rfl) (laid_met os))) ?_
  intro W base args ds gs before hval hW _ _ _ hL _ _
  exact contract H enc W base args ds gs before hval hW hL

theorem said : Rows.FnExactAssembleSaid :=
  OpenClaim.holds_of_cond 6 Tryd.f6 rfl rfl rfl rfl rfl rfl rfl ⟨rfl, rfl, rfl, rfl, rfl⟩ rfl rfl rfl rfl rfl (by kernel_rfl) Tryd.func6 (by kernel_rfl)
    (of_decide_eq_true (by kernel_rfl)) (by unfold Func.isWrapper; first | (rw [if_pos (by decide +kernel)]; kernel_rfl) | (rw [if_neg (by decide +kernel)]; exact ⟨rfl, rfl⟩))
    (fun os started H enc _ F => by rw [OpenClaim.pre_eq_preRow]; exact lifted os started H enc F)

theorem plain (f : FuncId) (fn : Func) (hf : Tryd.pinned.checked.prog.funcNamed Rows.fnExactAssembleRow.func = some f) (hfn : Tryd.pinned.checked.prog.funcs[f]? = some fn) :
    false = Tryd.pinned.checked.prog.looks [] ∧ ∀ (j : Nat) t, fn.params[j]? = some t → Tryd.pinned.checked.prog.wantsStandIn t = false := by
  obtain rfl : f = 6 := Option.some.inj ((show Tryd.prog.funcNamed Rows.fnExactAssembleRow.func = some 6 by kernel_rfl).symm.trans hf) |>.symm
  obtain rfl : fn = Tryd.f6 := (Option.some.inj (Tryd.func6.symm.trans hfn)).symm
  refine ⟨by kernel_rfl, fun j t ht => ?_⟩
  rw [Tryd.params6] at ht
  obtain rfl : t = 9 := by simpa using Array.mem_of_getElem? ht
  exact (show Tryd.prog.wantsStandIn 9 = false by kernel_rfl)

theorem card : Rows.FnExactAssembleCardSaid :=
  Claim7.holds_tied_plain_at .later [] _ _ _ _ said (fun _ h => by cases h) (by kernel_rfl) (fun _ h => by cases h) fnExactAssemble_row_tie rfl ⟨rfl, rfl⟩ (by kernel_rfl) rfl plain (by kernel_rfl)

end Go.Proofs.YtbcphgmcjickgaaDoor.fnExactAssemble
namespace Go.Proofs.YtbcphgmcjickgaaDoor
theorem fnExactAssemble_card : Rows.FnExactAssembleCardSaid :=
  fnExactAssemble.card
#print axioms fnExactAssemble_card
end Go.Proofs.YtbcphgmcjickgaaDoor
