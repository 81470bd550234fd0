/-
  Proved: at every argument the call of FnExactAllow returns true: Allow of the program answers as that of the specification (guards of more than 1048576 numbers the law itself lets by), and it writes into no argument. No conditions.
-/
import Derived.Test.YtgpdkodnggpkeaaRows
import Derived.Test.YtgpdkodnggpkeaaGd4
import Derived.Test.YtgpdkodnggpkeaaGdI
import Derived.OpenShut
import Derived.ShutString
import Derived.ChangeOld
import Derived.Below
import Derived.OpenVars
import Derived.Deep.DeepHandedRow
namespace Go.Proofs.Ytgpdkodnggpkeaa.fnExactAllow
open Go.ChangeShapes Go.WideShapes Go.ChangeAt Go.RowKit Go.PlainAid
open Go.ChangeMaps (open_string shut_string)
set_option linter.unusedVariables false

theorem own : ownKnob Try.prog.godebug = none := by kernel_rfl
theorem laidOut : laidOutB Try.prog = true := by kernel_rfl

set_option maxRecDepth 100000 in
set_option maxHeartbeats 4000000 in
theorem walk_in (al : Int) (a : Option Addr) (l : List Int) (n cap : Nat) (x : Int) (hl : l.length = n) (hn : n ≤ 1048576) (w : World) (hr : Rd w a l) :
    Calls Try.prog 8 #[.agg #[.slice a n cap, .int .i64 al], .int .i64 x] w fun e w' => e = .returned (.bool true) ∧ Below w.heap.size w w' := by
  have HL : Hid (l.length = n) := hl
  have HR : Hid (Rd w a l) := hr
  obtain ⟨b, hB⟩ := gd_bool l al
  have HB : Hid (b = true ↔ GdR l al) := hB
  have hm : n ≤ 9223372036854775807 := by omega
  have HLE : Hid (leftN 1048576 n = 1048576 - n) := leftN_yes (by omega)
  obtain ⟨z, hz⟩ : ∃ z, (if b = true ∧ al = 0 then letG l x else 0) = z := ⟨_, rfl⟩
  have HZ : Hid ((if b = true ∧ al = 0 then letG l x else 0) = z) := hz
  clear hz
  clear hl hr hB
  have FW_1 : Hid (Below w.heap.size w (w)) := Below.refl _ _
  have N_2 : Hid ((w).heap.size ≤ (w.alloc (.cells #[.slice a n cap, .int .i64 al] 36)).heap.size) := ((Below.refl (w).heap.size (w)).alloc (Nat.le_refl _) (.cells #[.slice a n cap, .int .i64 al] 36)).size
  have FW_3 : Hid (Below w.heap.size w (w.alloc (.cells #[.slice a n cap, .int .i64 al] 36))) := bel_on (Nat.le_refl _) FW_1.out ((Below.refl (w).heap.size (w)).alloc (Nat.le_refl _) (.cells #[.slice a n cap, .int .i64 al] 36))
  clear FW_1
  have N_4 : Hid (w.heap.size < (w.alloc (.cells #[.slice a n cap, .int .i64 al] 36)).heap.size) := by simp [Hid]
  have FA_5 : Hid ((w.alloc (.cells #[.slice a n cap, .int .i64 al] 36)).heap[w.heap.size]? = some (.cells #[.slice a n cap, .int .i64 al] 36)) := heap_new w _
  go_enter Try.func8, Try.ntmps8
  go_wp2_with fail
  refine (szGL a al n cap 1048576 hm (by omega) (by omega) _).mono ?_
  rintro e w1 ⟨rfl, hb1⟩
  rw [HLE.out]
  have N_6 : Hid ((w.alloc (.cells #[.slice a n cap, .int .i64 al] 36)).heap.size ≤ (w1).heap.size) := (hb1).size
  have FW_7 : Hid (Below w.heap.size w (w1)) := bel_on (Nat.le_refl _) FW_3.out (hb1)
  have FA_8 : Hid ((w1).heap[w.heap.size]? = some (.cells #[.slice a n cap, .int .i64 al] 36)) := row_on FA_5.out (hb1)
  clear FW_3 FA_5 hb1
  have kA := row2_cells FA_8.out
  go_wp2_with fail
  clear kA
  refine (toG a al l n cap HL.out hn _ (HR.out.keep FW_7.out (Nat.le_refl _))).mono ?_
  rintro e w2 ⟨g2, rfl, hg2, hrow2, hb2⟩
  have N_9 : Hid ((w1).heap.size ≤ (w2).heap.size) := (hb2).size
  have FW_10 : Hid (Below w.heap.size w (w2)) := bel_on (Nat.le_refl _) FW_7.out (hb2)
  have FA_11 : Hid ((w2).heap[w.heap.size]? = some (.cells #[.slice a n cap, .int .i64 al] 36)) := row_on FA_8.out (hb2)
  clear FW_7 FA_8
  have N_12 : Hid ((w1).heap.size ≤ g2 ∧ g2 < w2.heap.size) := ⟨hg2, hrow2.lt⟩
  have FR2_13 : Hid (RowAt (w2) g2 l) := hrow2
  clear hg2 hrow2 hb2
  go_wp2_with fail
  refine (allowS (some ⟨g2, 0, none⟩) al l n n x b z HL.out hm HB.out HZ.out _ (RowAt.rd FR2_13.out)).mono ?_
  rintro e w3 ⟨rfl, hb3⟩
  clear FR2_13
  have N_14 : Hid ((w2).heap.size ≤ (w3).heap.size) := (hb3).size
  have FW_15 : Hid (Below w.heap.size w (w3)) := bel_on (Nat.le_refl _) FW_10.out (hb3)
  have FA_16 : Hid ((w3).heap[w.heap.size]? = some (.cells #[.slice a n cap, .int .i64 al] 36)) := row_on FA_11.out (hb3)
  clear FW_10 FA_11 hb3
  have kA := row2_cells FA_16.out
  go_wp2_with fail
  clear kA
  refine (toG a al l n cap HL.out hn _ (HR.out.keep FW_15.out (Nat.le_refl _))).mono ?_
  rintro e w4 ⟨g4, rfl, hg4, hrow4, hb4⟩
  have N_17 : Hid ((w3).heap.size ≤ (w4).heap.size) := (hb4).size
  have FW_18 : Hid (Below w.heap.size w (w4)) := bel_on (Nat.le_refl _) FW_15.out (hb4)
  have FA_19 : Hid ((w4).heap[w.heap.size]? = some (.cells #[.slice a n cap, .int .i64 al] 36)) := row_on FA_16.out (hb4)
  clear FW_15 FA_16
  have N_20 : Hid ((w3).heap.size ≤ g4 ∧ g4 < w4.heap.size) := ⟨hg4, hrow4.lt⟩
  have FR4_21 : Hid (RowAt (w4) g4 l) := hrow4
  clear hg4 hrow4 hb4
  have N_22 : Hid ((w4).heap.size ≤ (w4.alloc (.cells #[.slice (some ⟨g4, 0, none⟩) n n, .int .i64 al] 26)).heap.size) := ((Below.refl (w4).heap.size (w4)).alloc (Nat.le_refl _) (.cells #[.slice (some ⟨g4, 0, none⟩) n n, .int .i64 al] 26)).size
  have FW_23 : Hid (Below w.heap.size w (w4.alloc (.cells #[.slice (some ⟨g4, 0, none⟩) n n, .int .i64 al] 26))) := bel_on (Nat.le_refl _) FW_18.out ((Below.refl (w4).heap.size (w4)).alloc (Nat.le_refl _) (.cells #[.slice (some ⟨g4, 0, none⟩) n n, .int .i64 al] 26))
  have FA_24 : Hid ((w4.alloc (.cells #[.slice (some ⟨g4, 0, none⟩) n n, .int .i64 al] 26)).heap[w.heap.size]? = some (.cells #[.slice a n cap, .int .i64 al] 36)) := row_on FA_19.out ((Below.refl (w4).heap.size (w4)).alloc (Nat.le_refl _) (.cells #[.slice (some ⟨g4, 0, none⟩) n n, .int .i64 al] 26))
  have FR4_25 : Hid (RowAt (w4.alloc (.cells #[.slice (some ⟨g4, 0, none⟩) n n, .int .i64 al] 26)) g4 l) := RowAt.on FR4_21.out ((Below.refl (w4).heap.size (w4)).alloc (Nat.le_refl _) (.cells #[.slice (some ⟨g4, 0, none⟩) n n, .int .i64 al] 26))
  clear FW_18 FA_19 FR4_21
  have N_26 : Hid (w4.heap.size < (w4.alloc (.cells #[.slice (some ⟨g4, 0, none⟩) n n, .int .i64 al] 26)).heap.size) := by simp [Hid]
  have FB8_27 : Hid ((w4.alloc (.cells #[.slice (some ⟨g4, 0, none⟩) n n, .int .i64 al] 26)).heap[w4.heap.size]? = some (.cells #[.slice (some ⟨g4, 0, none⟩) n n, .int .i64 al] 26)) := heap_new w4 _
  go_wp2_with fail
  refine (allowI (some ⟨g4, 0, none⟩) al l n n x b z HL.out hn HB.out HZ.out _ (RowAt.rd FR4_25.out)).mono ?_
  rintro e w5 ⟨rfl, hb5⟩
  have N_28 : Hid ((w4.alloc (.cells #[.slice (some ⟨g4, 0, none⟩) n n, .int .i64 al] 26)).heap.size ≤ (w5).heap.size) := (hb5).size
  have FW_29 : Hid (Below w.heap.size w (w5)) := bel_on (Nat.le_refl _) FW_23.out (hb5)
  have FA_30 : Hid ((w5).heap[w.heap.size]? = some (.cells #[.slice a n cap, .int .i64 al] 36)) := row_on FA_24.out (hb5)
  have FR4_31 : Hid (RowAt (w5) g4 l) := RowAt.on FR4_25.out (hb5)
  have FB8_32 : Hid ((w5).heap[w4.heap.size]? = some (.cells #[.slice (some ⟨g4, 0, none⟩) n n, .int .i64 al] 26)) := row_on FB8_27.out (hb5)
  clear FW_23 FA_24 FR4_25 FB8_27 hb5
  have HQ : Hid (w5.cell? ⟨w4.heap.size, 0, none⟩ = some (.slice (some ⟨g4, 0, none⟩) n n) ∧ w5.cell? ⟨w4.heap.size, 1, none⟩ = some (.int .i64 al) ∧ w5.cell? ⟨w.heap.size, 0, none⟩ = some (.slice a n cap) ∧ w5.cell? ⟨w.heap.size, 1, none⟩ = some (.int .i64 al)) := ⟨(row2_cells FB8_32.out).1, (row2_cells FB8_32.out).2.1, (row2_cells FA_30.out).1, (row2_cells FA_30.out).2.1⟩
  have HRw : Hid (Rd w5 a l) := HR.out.keep FW_29.out (Nat.le_refl _)
  go_wp2_with fail
  go_region_held3 (fun w' => w'.cell? ⟨w4.heap.size, 0, none⟩ = some (.slice (some ⟨g4, 0, none⟩) n n) ∧ w'.cell? ⟨w4.heap.size, 1, none⟩ = some (.int .i64 al) ∧ w'.cell? ⟨w.heap.size, 0, none⟩ = some (.slice a n cap) ∧ w'.cell? ⟨w.heap.size, 1, none⟩ = some (.int .i64 al) ∧ Below w5.heap.size w5 w') (first | (exact q4_keep HQ.out HBz.out) | (exact q4_keep HQ.out (q4_on (by assumption) (by assumption))) | (exact q4_keep HQ.out (Below.refl _ _).drew)) (first | (go_at_call 23; refine (toG a al l n cap HL.out hn _ ?_).mono ?_; (exact HRw.out.on (q4_bel (by assumption))); rintro e wt ⟨gt, rfl, hgt, hrowt, hbt⟩) | (go_at_call 24; refine (eqG (some ⟨g4, 0, none⟩) (some ⟨gt, 0, none⟩) al l n n n HL.out hn _ ?_ ?_).mono ?_; (exact (RowAt.rd FR4_31.out).on (q4_bel (by assumption))); (exact hrowt.rd); rintro e w7 ⟨rfl, hb7⟩; have HBz : Hid (Below w5.heap.size w5 w7) := q4_on hb7 (by assumption)))
  rename_i HH
  clear HH hbt hb7 hrowt hgt HQ HRw
  have N_33 : Hid ((w5).heap.size ≤ (w7).heap.size) := (HBz.out).size
  have FW_34 : Hid (Below w.heap.size w (w7)) := bel_on (Nat.le_refl _) FW_29.out (HBz.out)
  have FA_35 : Hid ((w7).heap[w.heap.size]? = some (.cells #[.slice a n cap, .int .i64 al] 36)) := row_on FA_30.out (HBz.out)
  have FR4_36 : Hid (RowAt (w7) g4 l) := RowAt.on FR4_31.out (HBz.out)
  have FB8_37 : Hid ((w7).heap[w4.heap.size]? = some (.cells #[.slice (some ⟨g4, 0, none⟩) n n, .int .i64 al] 26)) := row_on FB8_32.out (HBz.out)
  clear FW_29 FA_30 FR4_31 FB8_32 HBz
  go_wp2
  go_ret
  exact ⟨rfl, FW_34.out⟩

theorem walk (al : Int) (a : Option Addr) (len cap : Nat) (z : List Int) (x : Int) (w : World) (_ : (Lit.int .i64 al).wf = true) (h : IsRow .i64 w a len cap z) (_ : (Lit.int .i64 x).wf = true) :
    Calls Try.prog 8 #[.agg #[.slice a len cap, .int .i64 al], .int .i64 x] w fun e w' => e = .returned (.bool true) ∧ Below w.heap.size w w' := by
  obtain ⟨hr, hl, hc, hm⟩ := rd_of_row h
  by_cases hn : len ≤ 1048576
  · exact walk_in al a (z.take len) len cap x hl hn w hr
  · clear hr hl hc h
    have HLE : Hid (leftN 1048576 len = -1) := leftN_no (by omega)
    have HW : Hid (Below w.heap.size w (w.alloc (.cells #[.slice a len cap, .int .i64 al] 36))) := (box2 w _ _ _).2.1
    go_enter Try.func8, Try.ntmps8
    go_wp2_with fail
    refine (szGL a al len cap 1048576 hm (by omega) (by omega) _).mono ?_
    rintro e w1 ⟨rfl, hb1⟩
    rw [HLE.out]
    have HW1 : Hid (Below w.heap.size w w1) := HW.out.trans (hb1.mono HW.out.size)
    clear hb1 HW
    go_wp2
    go_ret
    exact ⟨rfl, HW1.out⟩

set_option maxRecDepth 100000 in
theorem lifted (os : Os) (started : os.Started) (H : Type) (enc : TypeId × Value → H) :
    ReturnsInHanded {} Try.checked os 8 .any (Rows.fnExactAllowSpec.pre6 enc Try.prog Try.f8 Rows.fnExactAllowRow.domain false) (Rows.fnExactAllowSpec.post enc Try.prog Try.f8 false true false false) := by
  refine returnsInHanded_of_change (C := Try.checked) own started (by kernel_rfl) Try.func8
    (ChangeSpec.witness6 (enc := enc) (C := Try.checked) false ⟨#[], #[.agg #[.slice none 0 0, .int .i64 0], .int .i64 0], []⟩ 8 (by kernel_rfl) (by kernel_rfl) (by kernel_rfl) (by kernel_rfl)) ?_
  intro W base args ds gs before hval0 hW hcnd _
  have hval : ∀ (j : Nat) t v, Try.f8.params[j]? = some t → args[j]? = some v → Value.okWide Try.prog W .any base t v := hval0
  have hW' := hW
  obtain ⟨p, q, hA0, hV, rfl, hfz, hnd⟩ := hW
  have hA : DataW.TrodAll enc Try.prog W 0 (fun _ => true) true Try.f8.params.toList args.toList ds p := hA0
  rw [Try.params8] at hA hval
  obtain ⟨v0, vs0, d0, ds0, p0, q0, hargs, rfl, rfl, h0, r0⟩ := trodAll_cons hA
  obtain ⟨v1, vs1, d1, ds1, p1, q1, rfl, rfl, rfl, h1, r1⟩ := trodAll_cons r0
  obtain ⟨rfl, rfl, rfl⟩ := trodAll_nil r1
  obtain rfl : args = #[v0, v1] := by cases args; simp_all
  obtain ⟨rfl, rfl⟩ := trodVars_none hV
  have k0 := h0
  have lt0 : ∀ x ∈ p0, x.block < W.heap.size := by obtain ⟨m, hm⟩ := k0; exact DataW.trod_lt m _ _ _ hm
  obtain ⟨p0c, a0, len0, cap0, z0, rfl, wp0, w0⟩ := open_guard (hval 0 36 v0 rfl rfl) h0
  obtain ⟨a1, rfl, rfl, rfl, w1⟩ := open_int Try.underlying3 (hval 1 3 v1 rfl rfl) h1
  clear hA0 hval0
  refine (walk p0c a0 len0 cap0 z0 a1 W wp0 w0 w1).mono fun e W' ⟨he, bel⟩ => ?_
  subst he
  exact ⟨_, rfl, _, _, _, [], _, [], hW', trodAll_mk1 (shut_bool Try.underlying4 _), (trodAll_cons_mk (Below.trod laidOut (by kernel_rfl) (of_decide_eq_true (by kernel_rfl)) k0 bel lt0) (trodAll_cons_mk (shut_int Try.underlying3 w1) trodAll_mk0)), rfl, bel.frame _, fun h => by cases h⟩

theorem over : Rows.fnExactAllowRow.holds Try.pinned (OpenSpec.ofChange Rows.fnExactAllowSpec) :=
  OpenClaim.holds_of_wide 8 Try.f8 rfl rfl rfl rfl rfl rfl rfl ⟨rfl, rfl, rfl, rfl, rfl⟩ rfl rfl rfl rfl rfl (by kernel_rfl) Try.func8 (by kernel_rfl)
    (of_decide_eq_true (by kernel_rfl)) (by unfold Func.isWrapper; first | (rw [if_pos (by decide +kernel)]; kernel_rfl) | (rw [if_neg (by decide +kernel)]; exact ⟨rfl, rfl⟩))
    (fun os started H enc _ => lifted os started H enc)

end Go.Proofs.Ytgpdkodnggpkeaa.fnExactAllow
namespace Go.Proofs.Ytgpdkodnggpkeaa
theorem fnExactAllow_holds : Rows.FnExactAllowSaid :=
  fnExactAllow.over
#print axioms fnExactAllow_holds
end Go.Proofs.Ytgpdkodnggpkeaa
