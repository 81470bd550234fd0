/-
  Proved: for every text the call of FnExactReadCode returns true: ReadCode of the program answers as that of the specification (texts of more than 1048576 bytes the law itself lets by), its list is its own and stays so behind a second call, and the argument reads as before. No conditions.
-/
import Derived.Test.YtbcphgmcjickgaaRows
import Derived.Test.YtbcphgmcjickgaaRCode
import Derived.OpenShut
import Derived.ShutString
import Derived.ChangeOld
import Derived.Below
import Derived.OpenVars
import Derived.Deep.DeepHandedRow
namespace Go.Proofs.Ytbcphgmcjickgaa.fnExactReadCode
open Go.ChangeShapes Go.WideShapes Go.ChangeAt Go.RowKit Go.PlainAid
open Go.ChangeMaps (open_string shut_string)
set_option linter.unusedVariables false

theorem own : ownKnob Try.prog.godebug = none := by kernel_rfl
theorem laidOut : laidOutB Try.prog = true := by kernel_rfl

set_option maxHeartbeats 2000000 in
theorem walk (a0 : ByteArray) (w : World) (w0 : a0.size ≤ maxLen) :
    Calls Try.prog 6 #[.string a0] w fun e w' => e = .returned (.bool true) ∧ Below w.heap.size w w' := by
  unfold maxLen at w0
  by_cases hs : a0.size ≤ 1048576
  · clear w0
    obtain ⟨b, hB⟩ := rc_bool a0
    have HB : Hid (b = true ↔ RcOk a0) := hB
    have hL := rcV_len hB
    clear hB
    go_enter Try.func6, Try.ntmps6
    go_wp2_with fail
    refine (readcodeS a0 hs b HB.out _).mono ?_
    rintro e w1 ⟨W0, rfl, ow1, hb1⟩
    go_wp2_with fail
    refine (readcodeI a0 hs b HB.out _).mono ?_
    rintro e w2 ⟨G0, rfl, og2, hb2⟩
    obtain ⟨L, hLV⟩ : ∃ L, rcV a0 b = L := ⟨_, rfl⟩
    have HV : Hid (rcV a0 b = L) := hLV
    rw [hLV] at ow1 og2 hL
    clear hLV
    have ow2 := ow1.on hb2
    obtain ⟨qw, cw, hvw, rw2⟩ := ow2.rd
    obtain ⟨qg, cg, hvg, rg2⟩ := og2.rd
    subst hvw
    subst hvg
    go_wp2_with fail
    refine (eqIn qg qw L L.length cg cw rfl (by omega) _ rg2 rw2).mono ?_
    rintro e w3 ⟨rfl, hb3⟩
    have ow3 := ow2.on hb3
    have og3 := og2.on hb3
    have s1 := hb1.size
    have s2 := hb2.size
    have s3 := hb3.size
    have kw := own_lt ow1
    clear og2 ow2 rw2 rg2
    go_wp2_with fail
    refine (markIn L (.slice qg L.length cg) _ L.length 1 1 rfl rfl (by omega) (by omega) _ og3 (by omega)).mono ?_
    rintro e w4 ⟨rfl, og4, hb4⟩
    have ow4 := ow3.keep hb4 kw
    have s4 := hb4.size
    have rg4 : RdR w4 qg (marksP 1 L.length) := by
      obtain ⟨q', c', hv', hr'⟩ := og4.rd
      rw [marksP_len] at hv'
      cases hv'
      exact hr'
    clear og3 ow3
    go_wp2_with fail
    refine (heldIn qg L.length 1 cg 1 rfl (by omega) (by omega) _ rg4).mono ?_
    rintro e w5 ⟨rfl, rfl⟩
    go_wp2_with fail
    refine (readcodeI a0 hs b HB.out _).mono ?_
    rintro e w6 ⟨H0, rfl, oh6, hb6⟩
    have hL6 : OwnI w6 w5.heap.size H0 L := HV.out ▸ oh6
    have ow6 := ow4.on hb6
    have rg6 := rg4.on hb6
    obtain ⟨qw', cw', hvw', rw6⟩ := ow6.rd
    obtain ⟨qh, ch, hvh, rh6⟩ := hL6.rd
    cases hvw'
    subst hvh
    have s6 := hb6.size
    clear ow4 oh6
    go_wp2_with fail
    refine (eqIn qh qw L L.length ch cw rfl (by omega) _ rh6 rw6).mono ?_
    rintro e w7 ⟨rfl, hb7⟩
    have rg7 := rg6.on hb7
    have s7 := hb7.size
    clear ow6 rw6 rh6 rg6 hL6
    go_wp2_with fail
    refine (heldIn qg L.length 1 cg 1 rfl (by omega) (by omega) _ rg7).mono ?_
    rintro e w8 ⟨rfl, rfl⟩
    clear rg7
    have hB : Below w.heap.size w w8 := (((((hb1.trans (hb2.mono (by omega))).trans (hb3.mono (by omega))).trans (hb4.mono (by omega))).trans (hb6.mono (by omega))).trans (hb7.mono (by omega)))
    clear hb1 hb2 hb3 hb4 hb6 hb7 kw ow1
    go_wp2
    go_ret
    exact ⟨rfl, hB⟩
  · go_enter Try.func6, Try.ntmps6
    go_wp2
    go_ret
    exact ⟨rfl, Below.refl _ _⟩

set_option maxRecDepth 100000 in
theorem lifted (os : Os) (started : os.Started) (H : Type) (enc : TypeId × Value → H) :
    ReturnsInHanded {} Try.checked os 6 .any (Rows.fnExactReadCodeSpec.pre6 enc Try.prog Try.f6 Rows.fnExactReadCodeRow.domain false) (Rows.fnExactReadCodeSpec.post enc Try.prog Try.f6 false true false false) := by
  refine returnsInHanded_of_change (C := Try.checked) own started (by kernel_rfl) Try.func6
    (ChangeSpec.witness6 (enc := enc) (C := Try.checked) false ⟨#[], #[.string ByteArray.empty], []⟩ 8 (by kernel_rfl) (by kernel_rfl) (by kernel_rfl) (by kernel_rfl)) ?_
  intro W base args ds gs before hval0 hW hcnd _
  have hval : ∀ (j : Nat) t v, Try.f6.params[j]? = some t → args[j]? = some v → Value.okWide Try.prog W .any base t v := hval0
  have hW' := hW
  obtain ⟨p, q, hA0, hV, rfl, hfz, hnd⟩ := hW
  have hA : DataW.TrodAll enc Try.prog W 0 (fun _ => true) true Try.f6.params.toList args.toList ds p := hA0
  rw [Try.params6] at hA hval
  obtain ⟨v0, vs0, d0, ds0, p0, q0, hargs, rfl, rfl, h0, r0⟩ := trodAll_cons hA
  obtain ⟨rfl, rfl, rfl⟩ := trodAll_nil r0
  obtain rfl : args = #[v0] := by cases args; simp_all
  obtain ⟨rfl, rfl⟩ := trodVars_none hV
  obtain ⟨a0, rfl, rfl, rfl, w0⟩ := open_string Try.underlying9 (hval 0 9 v0 rfl rfl) h0
  clear hA0 hval0
  refine (walk a0 W w0).mono fun e W' ⟨he, bel⟩ => ?_
  subst he
  exact ⟨_, rfl, _, _, _, [], _, [], hW', trodAll_mk1 (shut_bool Try.underlying4 _), (trodAll_cons_mk (shut_string Try.underlying9 w0) trodAll_mk0), rfl, bel.frame _, fun h => by cases h⟩

theorem over : Rows.fnExactReadCodeRow.holds Try.pinned (OpenSpec.ofChange Rows.fnExactReadCodeSpec) :=
  OpenClaim.holds_of_wide 6 Try.f6 rfl rfl rfl rfl rfl rfl rfl ⟨rfl, rfl, rfl, rfl, rfl⟩ rfl rfl rfl rfl rfl (by kernel_rfl) Try.func6 (by kernel_rfl)
    (of_decide_eq_true (by kernel_rfl)) (by unfold Func.isWrapper; first | (rw [if_pos (by decide +kernel)]; kernel_rfl) | (rw [if_neg (by decide +kernel)]; exact ⟨rfl, rfl⟩))
    (fun os started H enc _ => lifted os started H enc)

end Go.Proofs.Ytbcphgmcjickgaa.fnExactReadCode
namespace Go.Proofs.Ytbcphgmcjickgaa
theorem fnExactReadCode_holds : Rows.FnExactReadCodeSaid :=
  fnExactReadCode.over
#print axioms fnExactReadCode_holds
end Go.Proofs.Ytbcphgmcjickgaa
