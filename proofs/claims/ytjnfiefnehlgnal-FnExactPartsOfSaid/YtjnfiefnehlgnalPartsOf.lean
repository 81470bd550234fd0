/-
  Proved: for every line the call of FnExactPartsOf returns true: PartsOf of the program answers as PartsOf of the specification (lines of more than 1048576 bytes the law itself lets by), its list is its own and stays so behind a second call, and the argument reads as before. No conditions.
-/
import Derived.Test.YtjnfiefnehlgnalRows
import Derived.Test.YtjnfiefnehlgnalParts1
import Derived.OpenShut
import Derived.ShutString
import Derived.ChangeOld
import Derived.Below
namespace Go.Proofs.Ytjnfiefnehlgnal.fnExactPartsOf
open Go.ChangeShapes Go.WideShapes Go.ChangeAt Go.RowKit Plain
open Go.ChangeMaps (open_string shut_string)
set_option linter.unusedVariables false

theorem own : ownKnob Try.prog.godebug = none := by kernel_rfl

theorem mark7' (K : Int) (l : List ByteArray) (v : Value) (B k : Nat) (hK : K = k) (h0 : 0 < k) (hk : k + l.length ≤ 1000000) (w : World) (hown : w.ownsRow B 9 1 v l.length (strV l)) (hB : B ≤ w.heap.size) :
    Calls Try.prog 7 #[v, .int .i64 K] w fun e w' => e = .returned (.int .i64 (K + l.length)) ∧ w'.ownsRow B 9 1 v l.length (strV (marks k l.length)) ∧ Below B w w' := by
  subst hK; exact mark7 l v B k h0 hk w hown hB
theorem held8' (K : Int) (n : Nat) (v : Value) (B k : Nat) (hK : K = k) (h0 : 0 < k) (hk : k + n ≤ 1000000) (w : World) (hown : w.ownsRow B 9 1 v n (strV (marks k n))) :
    Calls Try.prog 8 #[v, .int .i64 K] w fun e w' => e = .returned (.int .i64 (K + n)) ∧ Below w.heap.size w w' := by
  subst hK; exact held8 n v B k h0 hk w hown

set_option maxHeartbeats 1000000 in
theorem walk (a0 : ByteArray) (w0 : a0.size ≤ maxLen) (w : World) :
    Calls Try.prog 3 #[.string a0] w fun e w' => e = .returned (.bool true) ∧ Below w.heap.size w w' := by
  unfold maxLen at w0
  by_cases hs : a0.size ≤ 1048576
  · clear w0
    go_enter Try.func3, Try.ntmps3
    go_wp2_with fail
    refine (parts4 a0 hs _).mono ?_
    rintro e w1 ⟨W0, L, b, rfl, hP, ow1, hb1⟩
    have hL : L.length ≤ 10 := by rcases hP with ⟨_, _, _, h, rfl⟩ | ⟨_, rfl, _⟩ <;> first | exact h | simp
    have HP : Hid (Parts a0 L b) := hP
    clear hP
    go_wp2_with fail
    refine (parts5 a0 hs _).mono ?_
    rintro e w2 ⟨G0, L', b', rfl, hP', og2, hb2⟩
    obtain ⟨rfl, rfl⟩ := parts_one HP.out hP'
    clear hP'
    have ow2 := own_keep ow1 hb2 (own_lt ow1)
    go_wp2_with fail
    refine (eq6 L G0 W0 _ _ _ (by omega) _ og2 ow2).mono ?_
    rintro e w3 ⟨rfl, hb3⟩
    have ow3 := own_keep ow2 hb3 (own_lt ow2)
    have og3 := own_keep og2 hb3 (own_lt og2)
    have s1 := hb1.size
    have s2 := hb2.size
    have s3 := hb3.size
    have kw := own_lt ow1
    clear og2 ow2
    go_wp2_with fail
    refine (mark7' 1 L G0 _ 1 (by omega) (by omega) (by omega) _ og3 (by omega)).mono ?_
    rintro e w4 ⟨rfl, og4, hb4⟩
    have ow4 := own_keep ow3 hb4 kw
    have s4 := hb4.size
    clear og3 ow3
    go_wp2_with fail
    refine (held8' 1 L.length G0 _ 1 (by omega) (by omega) (by omega) _ og4).mono ?_
    rintro e w5 ⟨rfl, hb5⟩
    have ow5 := own_keep ow4 hb5 (own_lt ow4)
    have og5 := own_keep og4 hb5 (own_lt og4)
    have s5 := hb5.size
    clear og4 ow4
    go_wp2_with fail
    refine (parts5 a0 hs _).mono ?_
    rintro e w6 ⟨H0, L', b', rfl, hP', oh6, hb6⟩
    obtain ⟨rfl, rfl⟩ := parts_one HP.out hP'
    clear hP'
    have ow6 := own_keep ow5 hb6 (own_lt ow5)
    have og6 := own_keep og5 hb6 (own_lt og5)
    have s6 := hb6.size
    clear og5 ow5
    go_wp2_with fail
    refine (eq6 L H0 W0 _ _ _ (by omega) _ oh6 ow6).mono ?_
    rintro e w7 ⟨rfl, hb7⟩
    have og7 := own_keep og6 hb7 (own_lt og6)
    have s7 := hb7.size
    clear og6 ow6 oh6
    go_wp2_with fail
    refine (held8' 1 L.length G0 _ 1 (by omega) (by omega) (by omega) _ og7).mono ?_
    rintro e w8 ⟨rfl, hb8⟩
    clear og7
    have hB : Below w.heap.size w w8 := (((((((hb1.trans (hb2.mono (by omega))).trans (hb3.mono (by omega))).trans (hb4.mono (by omega))).trans (hb5.mono (by omega))).trans (hb6.mono (by omega))).trans (hb7.mono (by omega))).trans (hb8.mono (by omega)))
    clear hb1 hb2 hb3 hb4 hb5 hb6 hb7 hb8 kw ow1
    go_wp2
    go_ret
    exact ⟨rfl, hB⟩
  · go_enter Try.func3, Try.ntmps3
    go_wp2
    go_ret
    exact ⟨rfl, Below.refl _ _⟩

set_option maxRecDepth 100000 in
theorem lifted (os : Os) (started : os.Started) (H : Type) (enc : TypeId × Value → H) :
    ReturnsInHanded {} Try.checked os 3 .any (Rows.fnExactPartsOfSpec.pre6 enc Try.prog Try.f3 Rows.fnExactPartsOfRow.domain false) (Rows.fnExactPartsOfSpec.post enc Try.prog Try.f3 false true false false) := by
  refine returnsInHanded_of_change (C := Try.checked) own started (by kernel_rfl) Try.func3
    (ChangeSpec.witness6 (enc := enc) (C := Try.checked) false ⟨#[], #[.string ByteArray.empty], []⟩ 8 (by kernel_rfl) (by kernel_rfl) (by kernel_rfl) (by kernel_rfl)) ?_
  intro W base args ds gs before hval0 hW hcnd _
  have hval : ∀ (j : Nat) t v, Try.f3.params[j]? = some t → args[j]? = some v → Value.okWide Try.prog W .any base t v := hval0
  have hW' := hW
  obtain ⟨p, q, hA0, hV, rfl, hfz, hnd⟩ := hW
  have hA : DataW.TrodAll enc Try.prog W 0 (fun _ => true) true Try.f3.params.toList args.toList ds p := hA0
  rw [Try.params3] at hA hval
  obtain ⟨v0, vs0, d0, ds0, p0, q0, hargs, rfl, rfl, h0, r0⟩ := trodAll_cons hA
  obtain ⟨rfl, rfl, rfl⟩ := trodAll_nil r0
  obtain rfl : args = #[v0] := by cases args; simp_all
  obtain ⟨rfl, rfl⟩ := trodVars_none hV
  obtain ⟨a0, rfl, rfl, rfl, w0⟩ := open_string Try.underlying9 (hval 0 9 v0 rfl rfl) h0
  clear hA0 hval0
  refine (walk a0 w0 W).mono fun e W' ⟨he, bel⟩ => ?_
  subst he
  exact ⟨_, rfl, _, _, _, [], _, [], hW', trodAll_mk1 (shut_bool Try.underlying4 _), (trodAll_cons_mk (shut_string Try.underlying9 w0) trodAll_mk0), rfl, bel.frame _, fun h => by cases h⟩

theorem over : Rows.fnExactPartsOfRow.holds Try.pinned (OpenSpec.ofChange Rows.fnExactPartsOfSpec) :=
  OpenClaim.holds_of_wide 3 Try.f3 rfl rfl rfl rfl rfl rfl rfl ⟨rfl, rfl, rfl, rfl, rfl⟩ rfl rfl rfl rfl rfl (by kernel_rfl) Try.func3 (by kernel_rfl)
    (of_decide_eq_true (by kernel_rfl)) (by unfold Func.isWrapper; first | (rw [if_pos (by decide +kernel)]; kernel_rfl) | (rw [if_neg (by decide +kernel)]; exact ⟨rfl, rfl⟩))
    (fun os started H enc _ => lifted os started H enc)

end Go.Proofs.Ytjnfiefnehlgnal.fnExactPartsOf
namespace Go.Proofs.Ytjnfiefnehlgnal
theorem fnExactPartsOf_holds : Rows.FnExactPartsOfSaid :=
  fnExactPartsOf.over
#print axioms fnExactPartsOf_holds
end Go.Proofs.Ytjnfiefnehlgnal
