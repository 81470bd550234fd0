/-
  Proved: for every list of windows and every int the call of FnExactWindowAt returns true: WindowAt of the program answers as that of the specification, field by field (lists of more than 1048576 windows the law itself lets by), and it writes into no argument. No conditions.
-/
import Derived.Test.YtjifkonjjcpfkaaRows
import Derived.Test.YtjifkonjjcpfkaaPlan9
import Derived.Test.YtjifkonjjcpfkaaImplP9
import Derived.OpenShut
import Derived.ShutString
import Derived.ChangeOld
import Derived.Below
import Derived.OpenVars
import Derived.Deep.DeepHandedRow
namespace Go.Proofs.Ytjifkonjjcpfkaa.fnExactWindowAt
open Go.ChangeShapes Go.WideShapes Go.ChangeAt Go.RowKit Go.PlainAid
open Go.ChangeMaps (open_string shut_string)
set_option linter.unusedVariables false

theorem own : ownKnob Try.prog.godebug = none := by kernel_rfl
theorem laidOut : laidOutB Try.prog = true := by kernel_rfl

set_option maxRecDepth 100000 in
set_option maxHeartbeats 2000000 in
theorem walk_in (a : Option Addr) (l : List (Int × Int)) (n cap : Nat) (x : Int) (hl : l.length = n) (hn : n ≤ 1048576) (w : World) (hr : RdR w a l) :
    Calls Try.prog 6 #[.slice a n cap, .int .i64 x] w fun e w' => e = .returned (.bool true) ∧ Below w.heap.size w w' := by
  have HL : Hid (l.length = n) := hl
  have HR : Hid (RdR w a l) := hr
  have hm : n ≤ 9223372036854775807 := by omega
  have HLE : Hid ((if n ≤ 1048576 then 1048576 - (n : Int) else -1) = 1048576 - n) := if_pos hn
  obtain ⟨b, hB⟩ := plan_bool l
  have HPB : Hid (b = true ↔ PlanR l) := hB
  obtain ⟨f, s, hfs⟩ : ∃ f s, winAt b l x = (f, s) := ⟨_, _, rfl⟩
  have HWA : Hid (winAt b l x = (f, s)) := hfs
  clear hB hfs
  clear hl hr
  have HW0 : Hid (Below w.heap.size w w) := Below.refl _ _
  go_enter Try.func6, Try.ntmps6
  go_wp2_with fail
  refine (szRs a n cap hm _).mono ?_
  rintro e wx ⟨rfl, hwx⟩
  have hwy := hwx.symm
  subst hwy
  clear hwx
  rw [HLE.out]
  go_wp2_with fail
  refine (toRs a l n cap HL.out hn _ (HR.out.keep HW0.out (Nat.le_refl _))).mono ?_
  rintro e w1 ⟨rfl, hrow1, hb1⟩
  have HW1 : Hid (Below w.heap.size w w1) := bel_on (Nat.le_refl _) HW0.out hb1
  have HX1 : Hid (RdR w1 (some ⟨w.heap.size, 0, none⟩) l) := hrow1.rd
  clear hb1 hrow1 HW0
  go_wp2_with fail
  refine (winS (some ⟨w.heap.size, 0, none⟩) l n n x f s b HL.out hn HPB.out HWA.out _ HX1.out).mono ?_
  rintro e w2 ⟨rfl, hb2⟩
  have HB2 : Hid (Below w1.heap.size w1 w2) := hid (by first | exact hb2 | (rw [hb2]; exact Below.refl _ _))
  clear hb2
  have HW2 : Hid (Below w.heap.size w w2) := bel_on (Nat.le_refl _) HW1.out HB2.out
  clear HB2 HW1 HX1
  have HV3 : Hid ((w2.alloc (.cells #[.int .i64 f, .int .i64 s] 35)).heap[w2.heap.size]? = some (.cells #[.int .i64 f, .int .i64 s] 35)) := heap_new w2 _
  have HW3 : Hid (Below w.heap.size w (w2.alloc (.cells #[.int .i64 f, .int .i64 s] 35))) := HW2.out.alloc HW2.out.size _
  clear HW2
  go_wp2_with fail
  refine (toRs a l n cap HL.out hn _ (HR.out.keep HW3.out (Nat.le_refl _))).mono ?_
  rintro e w4 ⟨rfl, hrow4, hb4⟩
  have HW4 : Hid (Below w.heap.size w w4) := bel_on (Nat.le_refl _) HW3.out hb4
  obtain ⟨g4, hg4⟩ : ∃ k, (w2.alloc (.cells #[.int .i64 f, .int .i64 s] 35)).heap.size = k := ⟨_, rfl⟩
  rw [hg4] at hrow4 ⊢
  have HX4 : Hid (RdR w4 (some ⟨g4, 0, none⟩) l) := hrow4.rd
  have HV4 : Hid (_ = _) := row_on HV3.out hb4
  clear HV3
  clear hb4 hrow4 HW3 hg4
  go_wp2_with fail
  refine (winI (some ⟨g4, 0, none⟩) l n n x f s b HL.out hn HPB.out HWA.out _ HX4.out).mono ?_
  rintro e w5 ⟨rfl, hb5⟩
  have HW5 : Hid (Below w.heap.size w w5) := bel_on (Nat.le_refl _) HW4.out hb5
  have HX5 : Hid (RdR w5 (some ⟨g4, 0, none⟩) l) := HX4.out.on hb5
  have HV5 : Hid ((w5.alloc (.cells #[.int .i64 f, .int .i64 s] 35)).heap[w2.heap.size]? = some (.cells #[.int .i64 f, .int .i64 s] 35)) := row_on (row_on HV4.out hb5) ((Below.refl _ _).alloc (Nat.le_refl _) _)
  have HU5 : Hid ((w5.alloc (.cells #[.int .i64 f, .int .i64 s] 35)).heap[w5.heap.size]? = some (.cells #[.int .i64 f, .int .i64 s] 35)) := heap_new w5 _
  have HW6 : Hid (Below w.heap.size w (w5.alloc (.cells #[.int .i64 f, .int .i64 s] 35))) := HW5.out.alloc HW5.out.size _
  have HX6 : Hid (RdR (w5.alloc (.cells #[.int .i64 f, .int .i64 s] 35)) (some ⟨g4, 0, none⟩) l) := HX5.out.on ((Below.refl _ _).alloc (Nat.le_refl _) _)
  clear hb5 HW4 HX4 HV4 HW5 HX5
  have kv := row2_cells HV5.out
  have ku := row2_cells HU5.out
  go_wp2_with fail
  clear kv ku HV5 HU5
  refine (eqR f s _).mono ?_
  rintro e w7 ⟨rfl, hb7⟩
  have HW7 : Hid (Below w.heap.size w w7) := bel_on (Nat.le_refl _) HW6.out hb7
  have HX7 : Hid (RdR w7 (some ⟨g4, 0, none⟩) l) := HX6.out.on hb7
  clear hb7 HW6 HX6
  go_wp2_with fail
  refine (toRs a l n cap HL.out hn _ (HR.out.keep HW7.out (Nat.le_refl _))).mono ?_
  rintro e w8 ⟨rfl, hrow8, hb8⟩
  obtain ⟨g8, hg8⟩ : ∃ k, w7.heap.size = k := ⟨_, rfl⟩
  rw [hg8] at hrow8 ⊢
  have HW8 : Hid (Below w.heap.size w w8) := bel_on (Nat.le_refl _) HW7.out hb8
  have HX8 : Hid (RdR w8 (some ⟨g4, 0, none⟩) l) := HX7.out.on hb8
  have HY8 : Hid (RdR w8 (some ⟨g8, 0, none⟩) l) := hrow8.rd
  clear hb8 hrow8 HW7 HX7 hg8
  go_wp2_with fail
  refine (eqIn (some ⟨g4, 0, none⟩) (some ⟨g8, 0, none⟩) l n n n HL.out hn _ HX8.out HY8.out).mono ?_
  rintro e w9 ⟨rfl, hb9⟩
  have HW9 : Hid (Below w.heap.size w w9) := bel_on (Nat.le_refl _) HW8.out hb9
  clear hb9 HW8 HX8 HY8
  go_wp2
  go_ret
  exact ⟨rfl, HW9.out⟩

theorem walk (a : Option Addr) (len cap : Nat) (z : List (Int × Int)) (x : Int) (w : World) (h : IsRegs w a len cap z) (_ : (Lit.int .i64 x).wf = true) :
    Calls Try.prog 6 #[.slice a len cap, .int .i64 x] w fun e w' => e = .returned (.bool true) ∧ Below w.heap.size w w' := by
  obtain ⟨hl, hc, hm, hr⟩ := h
  by_cases hn : len ≤ 1048576
  · exact walk_in a z len cap x hl hn w hr
  · clear hr hl hc
    have HLE : Hid ((if len ≤ 1048576 then 1048576 - (len : Int) else -1) = -1) := if_neg hn
    go_enter Try.func6, Try.ntmps6
    go_wp2_with fail
    refine (szRs a len cap hm _).mono ?_
    rintro e w1 ⟨rfl, rfl⟩
    rw [HLE.out]
    go_wp2
    go_ret
    exact ⟨rfl, Below.refl _ _⟩

set_option maxRecDepth 100000 in
theorem lifted (os : Os) (started : os.Started) (H : Type) (enc : TypeId × Value → H) :
    ReturnsInHanded {} Try.checked os 6 .any (Rows.fnExactWindowAtSpec.pre6 enc Try.prog Try.f6 Rows.fnExactWindowAtRow.domain false) (Rows.fnExactWindowAtSpec.post enc Try.prog Try.f6 false true false false) := by
  refine returnsInHanded_of_change (C := Try.checked) own started (by kernel_rfl) Try.func6
    (ChangeSpec.witness6 (enc := enc) (C := Try.checked) false ⟨#[], #[.slice none 0 0, .int .i64 0], []⟩ 8 (by kernel_rfl) (by kernel_rfl) (by kernel_rfl) (by kernel_rfl)) ?_
  intro W base args ds gs before hval0 hW hcnd _
  have hval : ∀ (j : Nat) t v, Try.f6.params[j]? = some t → args[j]? = some v → Value.okWide Try.prog W .any base t v := hval0
  have hW' := hW
  obtain ⟨p, q, hA0, hV, rfl, hfz, hnd⟩ := hW
  have hA : DataW.TrodAll enc Try.prog W 0 (fun _ => true) true Try.f6.params.toList args.toList ds p := hA0
  rw [Try.params6] at hA hval
  obtain ⟨v0, vs0, d0, ds0, p0, q0, hargs, rfl, rfl, h0, r0⟩ := trodAll_cons hA
  obtain ⟨v1, vs1, d1, ds1, p1, q1, rfl, rfl, rfl, h1, r1⟩ := trodAll_cons r0
  obtain ⟨rfl, rfl, rfl⟩ := trodAll_nil r1
  obtain rfl : args = #[v0, v1] := by cases args; simp_all
  obtain ⟨rfl, rfl⟩ := trodVars_none hV
  have k0 := h0
  have lt0 : ∀ x ∈ p0, x.block < W.heap.size := by obtain ⟨m, hm⟩ := k0; exact DataW.trod_lt m _ _ _ hm
  obtain ⟨a0, len0, cap0, z0, rfl, w0⟩ := open_wins (hval 0 43 v0 rfl rfl) h0
  obtain ⟨a1, rfl, rfl, rfl, w1⟩ := open_int Try.underlying3 (hval 1 3 v1 rfl rfl) h1
  clear hA0 hval0
  refine (walk a0 len0 cap0 z0 a1 W w0 w1).mono fun e W' ⟨he, bel⟩ => ?_
  subst he
  exact ⟨_, rfl, _, _, _, [], _, [], hW', trodAll_mk1 (shut_bool Try.underlying4 _), (trodAll_cons_mk (Below.trod laidOut (by kernel_rfl) (of_decide_eq_true (by kernel_rfl)) k0 bel lt0) (trodAll_cons_mk (shut_int Try.underlying3 w1) trodAll_mk0)), rfl, bel.frame _, fun h => by cases h⟩

theorem over : Rows.fnExactWindowAtRow.holds Try.pinned (OpenSpec.ofChange Rows.fnExactWindowAtSpec) :=
  OpenClaim.holds_of_wide 6 Try.f6 rfl rfl rfl rfl rfl rfl rfl ⟨rfl, rfl, rfl, rfl, rfl⟩ rfl rfl rfl rfl rfl (by kernel_rfl) Try.func6 (by kernel_rfl)
    (of_decide_eq_true (by kernel_rfl)) (by unfold Func.isWrapper; first | (rw [if_pos (by decide +kernel)]; kernel_rfl) | (rw [if_neg (by decide +kernel)]; exact ⟨rfl, rfl⟩))
    (fun os started H enc _ => lifted os started H enc)

end Go.Proofs.Ytjifkonjjcpfkaa.fnExactWindowAt
namespace Go.Proofs.Ytjifkonjjcpfkaa
theorem fnExactWindowAt_holds : Rows.FnExactWindowAtSaid :=
  fnExactWindowAt.over
#print axioms fnExactWindowAt_holds
end Go.Proofs.Ytjifkonjjcpfkaa
