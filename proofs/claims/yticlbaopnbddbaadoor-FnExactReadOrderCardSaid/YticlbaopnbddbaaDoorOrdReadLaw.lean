/-
  Proved: the tied card of FnExactReadOrder: for every text the call returns true: ReadOrder of the program answers as that of the specification (texts of more than 1048576 bytes the law itself lets by), and the argument reads as before. Conditions: the listed table holds what its own initialiser lays (the card ties it to the text of the pruned copy of the project).
-/
import Derived.Test.YticlbaopnbddbaaDoorCards
import Derived.Test.YticlbaopnbddbaaDoorTie
import Derived.Test.YticlbaopnbddbaaDoorQLaid
import Derived.Test.YticlbaopnbddbaaDoorOrdI
import Derived.Test.YticlbaopnbddbaaDoorOrdS
import Derived.Test.YticlbaopnbddbaaDoorOpenO
import Derived.OpenShut
import Derived.OpenVars
import Derived.ChangeVars
import Derived.ShutString
import Derived.ChangeOld
import Derived.Below
import Derived.Deep.DeepHandedRow
import Derived.Lib.LaidTab
namespace Go.Proofs.YticlbaopnbddbaaDoor.fnExactReadOrder
open Go.ChangeShapes Go.WideShapes Go.ChangeAt Go.RowKit Go.PlainAid
open Go.ChangeMaps (open_string shut_string)
set_option linter.unusedVariables false

theorem own : ownKnob Tryd.prog.godebug = none := by kernel_rfl
theorem laidOut : laidOutB Tryd.prog = true := by kernel_rfl
theorem table {W : World} (h : laidMetH Tryd.prog Rows.fnExactReadOrderRow.laid W) : Q.Tab W := Q.table_of h

set_option maxRecDepth 100000 in
set_option maxHeartbeats 1000000 in
theorem walk (t : ByteArray) (w : World) (_ : t.size ≤ maxLen) (ht : Q.Tab w) :
    Calls Tryd.prog 5 #[.string t] w fun e w' => e = .returned (.bool true) ∧ Below w.heap.size w w' := by
  have HT : Hid (Q.Tab w) := ht
  clear ht
  go_enter Tryd.func5, Tryd.ntmps5
  by_cases hl : 1048576 < t.size
  · go_wp2
    go_ret
    exact ⟨rfl, Below.refl _ _⟩
  · have hs : t.size ≤ 1048576 := by omega
    go_wp2_with fail
    refine (readoS t hs _).mono ?_
    rintro e w1 ⟨k, n, d, v, b, rfl, hr1, hb1⟩
    have HR1 : Hid (RdOr t k n d v b) := hr1
    have HB1 : Hid (Below w.heap.size w w1) := hb1
    clear hr1 hb1
    unfold ordV
    obtain ⟨g1, hg1⟩ : ∃ g, w1.heap.size = g := ⟨_, rfl⟩
    have HK2 : Hid ((w1.alloc (.cells #[.int .i64 k, .int .i64 n, .int .i64 d, .int .i64 v] 25)).heap[g1]? = some (.cells #[.int .i64 k, .int .i64 n, .int .i64 d, .int .i64 v] 25)) := by rw [← hg1]; exact heap_new w1 _
    have HB2 : Hid (Below w.heap.size w (w1.alloc (.cells #[.int .i64 k, .int .i64 n, .int .i64 d, .int .i64 v] 25))) := bel_on (Nat.le_refl _) HB1.out (alQ _ _)
    go_wp2_with fail
    try rw [hg1]
    refine (readoI t hs _ (Q.tab_below HT.out HB2.out)).mono ?_
    rintro e w3 ⟨k', n', d', v', b', rfl, hr3, hb3⟩
    obtain ⟨rfl, rfl, rfl, rfl, rfl⟩ := HR1.out.uni hr3
    have HK3 : Hid (w3.heap[g1]? = some (.cells #[.int .i64 k, .int .i64 n, .int .i64 d, .int .i64 v] 25)) := row_on HK2.out hb3
    have HB3 : Hid (Below w.heap.size w w3) := bel_on (Nat.le_refl _) HB2.out hb3
    clear hr3 hb3 HB2 HK2 HB1 hg1
    unfold ordV
    obtain ⟨g3, hg3⟩ : ∃ g, w3.heap.size = g := ⟨_, rfl⟩
    have HK4 : Hid ((w3.alloc (.cells #[.int .i64 k, .int .i64 n, .int .i64 d, .int .i64 v] 25)).heap[g3]? = some (.cells #[.int .i64 k, .int .i64 n, .int .i64 d, .int .i64 v] 25)) := by rw [← hg3]; exact heap_new w3 _
    have HKa : Hid ((w3.alloc (.cells #[.int .i64 k, .int .i64 n, .int .i64 d, .int .i64 v] 25)).heap[g1]? = some (.cells #[.int .i64 k, .int .i64 n, .int .i64 d, .int .i64 v] 25)) := row_on HK3.out (alQ _ _)
    have HB4 : Hid (Below w.heap.size w (w3.alloc (.cells #[.int .i64 k, .int .i64 n, .int .i64 d, .int .i64 v] 25))) := bel_on (Nat.le_refl _) HB3.out (alQ _ _)
    have q1 := box4_cells HKa.out
    have q2 := box4_cells HK4.out
    go_wp2_with fail
    try rw [hg3]
    refine (eqOrd k n d v _).mono ?_
    rintro e w5 ⟨rfl, hb5⟩
    have HB5 : Hid (Below w.heap.size w w5) := bel_on (Nat.le_refl _) HB4.out hb5
    clear hb5 HB4 HK4 HKa q1 q2
    go_wp2
    go_ret
    exact ⟨by simp, HB5.out⟩

set_option maxRecDepth 100000 in
theorem contract (H : Type) (enc : TypeId × Value → H) (W : World) (base : Nat) (args : Array Value) (ds gs : List (DataW H)) (before : List MemPlace)
    (hval : ∀ (j : Nat) t v, Tryd.f5.params[j]? = some t → args[j]? = some v → Value.okWide Tryd.prog W .any base t v)
    (hW : DataW.Whole enc Tryd.prog Tryd.f5.params.toList Rows.fnExactReadOrderSpec.vars false W args.toList ds gs before) (hL : laidMetH Tryd.prog Rows.fnExactReadOrderRow.laid W) :
    Calls Tryd.prog 5 args W fun e W' => ∃ v, e = .returned v ∧ Rows.fnExactReadOrderSpec.post enc Tryd.prog Tryd.f5 false true false false W args v W' := by
  have hW' := hW
  obtain ⟨p, q, hA0, hV, rfl, hfz, hnd⟩ := hW
  have hA : DataW.TrodAll enc Tryd.prog W 0 (fun _ => true) true Tryd.f5.params.toList args.toList ds p := hA0
  rw [Tryd.params5] at hA hval
  obtain ⟨v0, vs0, d0, ds0, p0, q0, hargs, rfl, rfl, h0, r0⟩ := trodAll_cons hA
  obtain ⟨rfl, rfl, rfl⟩ := trodAll_nil r0
  obtain rfl : args = #[v0] := by cases args; simp_all
  have hV' : DataW.TrodVars enc Tryd.prog W (fun _ => true) ["loop.example/g00200/impl.halfSums"] gs q := hV
  obtain ⟨gv, tv, csv, fuelv, dv, pv, rfl, _, _, _, _, rfl⟩ := trodVars_one hV'
  obtain ⟨a0, rfl, rfl, rfl, w0⟩ := open_string Tryd.underlying9 (hval 0 9 v0 rfl rfl) h0
  clear hA0
  refine (walk a0 W w0 (table hL)).mono fun e W' ⟨he, bel⟩ => ?_
  subst he
  exact ⟨_, rfl, _, _, _, [], _, _, hW', trodAll_mk1 (shut_bool Tryd.underlying4 _), (trodAll_cons_mk (shut_string Tryd.underlying9 w0) trodAll_mk0), bel.trodVars laidOut (by kernel_rfl) hV, bel.frame _, fun h => by cases h⟩

set_option maxRecDepth 100000 in
theorem laid_met (os : Os) : laidMet Tryd.prog Rows.fnExactReadOrderRow.laid ((Q.layW (World.holding Tryd.prog os ⟨#[], #[], []⟩)).forCall (fun _ _ => 0) ⟨#[], #[.string ByteArray.empty], []⟩).memory :=
  laidMet_of_run' 8 (by kernel_rfl) (by kernel_rfl)
set_option maxRecDepth 100000 in
theorem reads (os : Os) {H : Type} (enc : TypeId × Value → H) : ∃ places, DataW.whole enc Tryd.prog ((Q.layW (World.holding Tryd.prog os ⟨#[], #[], []⟩)).forCall (fun _ _ => 0) ⟨#[], #[.string ByteArray.empty], []⟩).memory Tryd.f5.params.toList Rows.fnExactReadOrderSpec.vars false #[Value.string ByteArray.empty].toList 8 = some ([.lit (.string [])], [Rows.laid_loop_example_g00200_impl_halfSums], places) :=
  ⟨MemPlace.row ⟨0, 0, none⟩ 16, by kernel_rfl⟩

set_option maxRecDepth 100000 in
theorem lifted (os : Os) (started : os.Started) (H : Type) (enc : TypeId × Value → H) (F : Stop.Interp) :
    ReturnsInHanded {} Tryd.checked os 5 .any ((OpenSpec.ofChange Rows.fnExactReadOrderSpec).preRow enc Tryd.prog Tryd.f5 Rows.fnExactReadOrderRow.domain false Rows.fnExactReadOrderRow.laid) (((OpenSpec.ofChange Rows.fnExactReadOrderSpec).at F).post enc Tryd.prog Tryd.f5 false true false false) := by
  obtain ⟨places, hx⟩ := reads os enc
  refine returnsInHanded_of_row (C := Tryd.checked) (s := OpenSpec.ofChange Rows.fnExactReadOrderSpec) own started (by kernel_rfl) Tryd.func5
    (witness_row_at (enc := enc) (C := Tryd.checked) false (Q.layW (World.holding Tryd.prog os ⟨#[], #[], []⟩)) #[.string ByteArray.empty] rfl (by kernel_rfl) (by kernel_rfl) (by kernel_rfl)
      (OpenSpec.preRow_of_cond 8 hx (by kernel_rfl) (fun k hk => by cases hk) (by kernel_rfl) (laid_met os))) ?_
  intro W base args ds gs before hval hW _ _ _ hL _ _
  exact contract H enc W base args ds gs before hval hW hL

theorem said : Rows.FnExactReadOrderSaid :=
  OpenClaim.holds_of_cond 5 Tryd.f5 rfl rfl rfl rfl rfl rfl rfl ⟨rfl, rfl, rfl, rfl, rfl⟩ rfl rfl rfl rfl rfl (by kernel_rfl) Tryd.func5 (by kernel_rfl)
    (of_decide_eq_true (by kernel_rfl)) (by unfold Func.isWrapper; first | (rw [if_pos (by decide +kernel)]; kernel_rfl) | (rw [if_neg (by decide +kernel)]; exact ⟨rfl, rfl⟩))
    (fun os started H enc _ F => by rw [OpenClaim.pre_eq_preRow]; exact lifted os started H enc F)

theorem plain (f : FuncId) (fn : Func) (hf : Tryd.pinned.checked.prog.funcNamed Rows.fnExactReadOrderRow.func = some f) (hfn : Tryd.pinned.checked.prog.funcs[f]? = some fn) :
    false = Tryd.pinned.checked.prog.looks [] ∧ ∀ (j : Nat) t, fn.params[j]? = some t → Tryd.pinned.checked.prog.wantsStandIn t = false := by
  obtain rfl : f = 5 := Option.some.inj ((show Tryd.prog.funcNamed Rows.fnExactReadOrderRow.func = some 5 by kernel_rfl).symm.trans hf) |>.symm
  obtain rfl : fn = Tryd.f5 := (Option.some.inj (Tryd.func5.symm.trans hfn)).symm
  refine ⟨by kernel_rfl, fun j t ht => ?_⟩
  rw [Tryd.params5] at ht
  obtain rfl : t = 9 := by simpa using Array.mem_of_getElem? ht
  exact (show Tryd.prog.wantsStandIn 9 = false by kernel_rfl)

theorem card : Rows.FnExactReadOrderCardSaid :=
  Claim7.holds_tied_plain_at .later [] _ _ _ _ said (fun _ h => by cases h) (by kernel_rfl) (fun _ h => by cases h) fnExactReadOrder_row_tie rfl ⟨rfl, rfl⟩ (by kernel_rfl) rfl plain (by kernel_rfl)

end Go.Proofs.YticlbaopnbddbaaDoor.fnExactReadOrder
namespace Go.Proofs.YticlbaopnbddbaaDoor
theorem fnExactReadOrder_card : Rows.FnExactReadOrderCardSaid :=
  fnExactReadOrder.card
#print axioms fnExactReadOrder_card
end Go.Proofs.YticlbaopnbddbaaDoor
