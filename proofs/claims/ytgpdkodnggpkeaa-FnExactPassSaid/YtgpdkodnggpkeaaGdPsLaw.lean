/-
  Proved: at every argument the call of FnExactPass returns true: Pass of the program answers as that of the specification, field by field (guards of more than 1048576 numbers the law itself lets by), writes into no argument, keeps nothing of one, and its answer owns its memory. No conditions.
-/
import Derived.Test.YtgpdkodnggpkeaaRows
import Derived.Test.YtgpdkodnggpkeaaGd4
import Derived.Test.YtgpdkodnggpkeaaGdI
import Derived.OpenShut
import Derived.ShutString
import Derived.ChangeOld
import Derived.Below
import Derived.OpenVars
import Derived.Deep.DeepHandedRow
namespace Go.Proofs.Ytgpdkodnggpkeaa.fnExactPass
open Go.ChangeShapes Go.WideShapes Go.ChangeAt Go.RowKit Go.PlainAid
open Go.ChangeMaps (open_string shut_string)
set_option linter.unusedVariables false

theorem own : ownKnob Try.prog.godebug = none := by kernel_rfl
theorem laidOut : laidOutB Try.prog = true := by kernel_rfl

set_option maxRecDepth 100000 in
set_option maxHeartbeats 4000000 in
theorem walk_in (al : Int) (a : Option Addr) (l : List Int) (n cap : Nat) (x : Int) (hl : l.length = n) (hn : n ≤ 1048576) (w : World) (hr : Rd w a l) :
    Calls Try.prog 9 #[.agg #[.slice a n cap, .int .i64 al], .int .i64 x] w fun e w' => e = .returned (.bool true) ∧ Below w.heap.size w w' := by
  have HL : Hid (l.length = n) := hl
  have HR : Hid (Rd w a l) := hr
  obtain ⟨b, hB⟩ := gd_bool l al
  have HB : Hid (b = true ↔ GdR l al) := hB
  have hm : n ≤ 9223372036854775807 := by omega
  have HLE : Hid (leftN 1048576 n = 1048576 - n) := leftN_yes (by omega)
  obtain ⟨y, hy⟩ : ∃ y, al = y := ⟨_, rfl⟩
  obtain ⟨E, hE⟩ : ∃ E, passL b l x = E := ⟨_, rfl⟩
  obtain ⟨N, hN⟩ : ∃ N, E.length = N := ⟨_, rfl⟩
  have HEL : Hid (E.length = N) := hN
  have HNN : Hid (N ≤ 1048576) := by
    show _ ≤ _
    rw [← hN, ← hE]
    unfold passL
    cases b
    · simp; omega
    · simp; omega
  have KS : Hid (∀ (ad : Addr) (w : World), Rd w (some ad) l → Calls Try.prog 29 #[.agg #[.slice (some ad) n n, .int .i64 al], .int .i64 x] w fun e w' => ∃ g c, e = .returned (.agg #[.slice (some ⟨g, 0, none⟩) N c, .int .i64 y]) ∧ OwnN w' (w.heap.size + 2) g N c E ∧ Below w.heap.size w w') := fun ad w h => by rw [← hy]; exact passS (some ad) al l n n x b E N hE hN HL.out hn (fun e => by cases e) HB.out w h
  have KI : Hid (∀ (ad : Addr) (w : World), Rd w (some ad) l → Calls Try.prog 15 #[.agg #[.slice (some ad) n n, .int .i64 al], .int .i64 x] w fun e w' => ∃ g c, e = .returned (.agg #[.slice (some ⟨g, 0, none⟩) N c, .int .i64 y]) ∧ OwnN w' w.heap.size g N c E ∧ Below w.heap.size w w') := fun ad w h => by rw [← hy]; exact passI (some ad) al l n n x b E N hE hN HL.out hn (fun e => by cases e) HB.out w h
  clear hy hE hN
  clear hl hr hB
  have FW_1 : Hid (Below w.heap.size w (w)) := Below.refl _ _
  have N_2 : Hid ((w).heap.size ≤ (w.alloc (.cells #[.slice a n cap, .int .i64 al] 36)).heap.size) := ((Below.refl (w).heap.size (w)).alloc (Nat.le_refl _) (.cells #[.slice a n cap, .int .i64 al] 36)).size
  have FW_3 : Hid (Below w.heap.size w (w.alloc (.cells #[.slice a n cap, .int .i64 al] 36))) := bel_on (Nat.le_refl _) FW_1.out ((Below.refl (w).heap.size (w)).alloc (Nat.le_refl _) (.cells #[.slice a n cap, .int .i64 al] 36))
  clear FW_1
  have N_4 : Hid (w.heap.size < (w.alloc (.cells #[.slice a n cap, .int .i64 al] 36)).heap.size) := by simp [Hid]
  have FA_5 : Hid ((w.alloc (.cells #[.slice a n cap, .int .i64 al] 36)).heap[w.heap.size]? = some (.cells #[.slice a n cap, .int .i64 al] 36)) := heap_new w _
  go_enter Try.func9, Try.ntmps9
  go_wp2_with fail
  refine (szGL a al n cap 1048576 hm (by omega) (by omega) _).mono ?_
  rintro e w1 ⟨rfl, hb1⟩
  rw [HLE.out]
  have N_6 : Hid ((w.alloc (.cells #[.slice a n cap, .int .i64 al] 36)).heap.size ≤ (w1).heap.size) := (hb1).size
  have FW_7 : Hid (Below w.heap.size w (w1)) := bel_on (Nat.le_refl _) FW_3.out (hb1)
  have FA_8 : Hid ((w1).heap[w.heap.size]? = some (.cells #[.slice a n cap, .int .i64 al] 36)) := row_on FA_5.out (hb1)
  clear FW_3 FA_5 hb1
  have kA := row2_cells FA_8.out
  go_wp2_with fail
  clear kA
  refine (toG a al l n cap HL.out hn _ (HR.out.keep FW_7.out (Nat.le_refl _))).mono ?_
  rintro e w2 ⟨g2, rfl, hg2, hrow2, hb2⟩
  have N_9 : Hid ((w1).heap.size ≤ (w2).heap.size) := (hb2).size
  have FW_10 : Hid (Below w.heap.size w (w2)) := bel_on (Nat.le_refl _) FW_7.out (hb2)
  have FA_11 : Hid ((w2).heap[w.heap.size]? = some (.cells #[.slice a n cap, .int .i64 al] 36)) := row_on FA_8.out (hb2)
  clear FW_7 FA_8
  have N_12 : Hid ((w1).heap.size ≤ g2 ∧ g2 < w2.heap.size) := ⟨hg2, hrow2.lt⟩
  have FR2_13 : Hid (RowAt (w2) g2 l) := hrow2
  clear hg2 hrow2 hb2
  go_wp2_with fail
  refine (KS.out _ _ (RowAt.rd FR2_13.out)).mono ?_
  rintro e w3 ⟨g3, c3, rfl, hown3, hb3⟩
  have N_14 : Hid ((w2).heap.size ≤ (w3).heap.size) := (hb3).size
  have FW_15 : Hid (Below w.heap.size w (w3)) := bel_on (Nat.le_refl _) FW_10.out (hb3)
  have FA_16 : Hid ((w3).heap[w.heap.size]? = some (.cells #[.slice a n cap, .int .i64 al] 36)) := row_on FA_11.out (hb3)
  have FR2_17 : Hid (RowAt (w3) g2 l) := RowAt.on FR2_13.out (hb3)
  clear FW_10 FA_11 FR2_13
  have N_18 : Hid ((w2).heap.size ≤ g3 ∧ g3 < w3.heap.size) := ⟨Nat.le_trans (by omega) hown3.ge, hown3.lt⟩
  have FO3_19 : Hid (OwnN (w3) (w2).heap.size g3 N c3 E) := hown3.mono (by omega)
  clear hown3 hb3
  clear FR2_17
  have N_20 : Hid ((w3).heap.size ≤ (w3.alloc (.cells #[.slice (some ⟨g3, 0, none⟩) N c3, .int .i64 y] 26)).heap.size) := ((Below.refl (w3).heap.size (w3)).alloc (Nat.le_refl _) (.cells #[.slice (some ⟨g3, 0, none⟩) N c3, .int .i64 y] 26)).size
  have FW_21 : Hid (Below w.heap.size w (w3.alloc (.cells #[.slice (some ⟨g3, 0, none⟩) N c3, .int .i64 y] 26))) := bel_on (Nat.le_refl _) FW_15.out ((Below.refl (w3).heap.size (w3)).alloc (Nat.le_refl _) (.cells #[.slice (some ⟨g3, 0, none⟩) N c3, .int .i64 y] 26))
  have FA_22 : Hid ((w3.alloc (.cells #[.slice (some ⟨g3, 0, none⟩) N c3, .int .i64 y] 26)).heap[w.heap.size]? = some (.cells #[.slice a n cap, .int .i64 al] 36)) := row_on FA_16.out ((Below.refl (w3).heap.size (w3)).alloc (Nat.le_refl _) (.cells #[.slice (some ⟨g3, 0, none⟩) N c3, .int .i64 y] 26))
  have FO3_23 : Hid (OwnN (w3.alloc (.cells #[.slice (some ⟨g3, 0, none⟩) N c3, .int .i64 y] 26)) (w2).heap.size g3 N c3 E) := FO3_19.out.on ((Below.refl (w3).heap.size (w3)).alloc (Nat.le_refl _) (.cells #[.slice (some ⟨g3, 0, none⟩) N c3, .int .i64 y] 26))
  clear FW_15 FA_16 FO3_19
  have N_24 : Hid (w3.heap.size < (w3.alloc (.cells #[.slice (some ⟨g3, 0, none⟩) N c3, .int .i64 y] 26)).heap.size) := by simp [Hid]
  have FB6_25 : Hid ((w3.alloc (.cells #[.slice (some ⟨g3, 0, none⟩) N c3, .int .i64 y] 26)).heap[w3.heap.size]? = some (.cells #[.slice (some ⟨g3, 0, none⟩) N c3, .int .i64 y] 26)) := heap_new w3 _
  have kA := row2_cells FA_22.out
  go_wp2_with fail
  clear kA
  refine (toG a al l n cap HL.out hn _ (HR.out.keep FW_21.out (Nat.le_refl _))).mono ?_
  rintro e w4 ⟨g4, rfl, hg4, hrow4, hb4⟩
  have N_26 : Hid ((w3.alloc (.cells #[.slice (some ⟨g3, 0, none⟩) N c3, .int .i64 y] 26)).heap.size ≤ (w4).heap.size) := (hb4).size
  have FW_27 : Hid (Below w.heap.size w (w4)) := bel_on (Nat.le_refl _) FW_21.out (hb4)
  have FA_28 : Hid ((w4).heap[w.heap.size]? = some (.cells #[.slice a n cap, .int .i64 al] 36)) := row_on FA_22.out (hb4)
  have FO3_29 : Hid (OwnN (w4) (w2).heap.size g3 N c3 E) := FO3_23.out.on (hb4)
  have FB6_30 : Hid ((w4).heap[w3.heap.size]? = some (.cells #[.slice (some ⟨g3, 0, none⟩) N c3, .int .i64 y] 26)) := row_on FB6_25.out (hb4)
  clear FW_21 FA_22 FO3_23 FB6_25
  have N_31 : Hid ((w3.alloc (.cells #[.slice (some ⟨g3, 0, none⟩) N c3, .int .i64 y] 26)).heap.size ≤ g4 ∧ g4 < w4.heap.size) := ⟨hg4, hrow4.lt⟩
  have FR4_32 : Hid (RowAt (w4) g4 l) := hrow4
  clear hg4 hrow4 hb4
  have N_33 : Hid ((w4).heap.size ≤ (w4.alloc (.cells #[.slice (some ⟨g4, 0, none⟩) n n, .int .i64 al] 26)).heap.size) := ((Below.refl (w4).heap.size (w4)).alloc (Nat.le_refl _) (.cells #[.slice (some ⟨g4, 0, none⟩) n n, .int .i64 al] 26)).size
  have FW_34 : Hid (Below w.heap.size w (w4.alloc (.cells #[.slice (some ⟨g4, 0, none⟩) n n, .int .i64 al] 26))) := bel_on (Nat.le_refl _) FW_27.out ((Below.refl (w4).heap.size (w4)).alloc (Nat.le_refl _) (.cells #[.slice (some ⟨g4, 0, none⟩) n n, .int .i64 al] 26))
  have FA_35 : Hid ((w4.alloc (.cells #[.slice (some ⟨g4, 0, none⟩) n n, .int .i64 al] 26)).heap[w.heap.size]? = some (.cells #[.slice a n cap, .int .i64 al] 36)) := row_on FA_28.out ((Below.refl (w4).heap.size (w4)).alloc (Nat.le_refl _) (.cells #[.slice (some ⟨g4, 0, none⟩) n n, .int .i64 al] 26))
  have FO3_36 : Hid (OwnN (w4.alloc (.cells #[.slice (some ⟨g4, 0, none⟩) n n, .int .i64 al] 26)) (w2).heap.size g3 N c3 E) := FO3_29.out.on ((Below.refl (w4).heap.size (w4)).alloc (Nat.le_refl _) (.cells #[.slice (some ⟨g4, 0, none⟩) n n, .int .i64 al] 26))
  have FB6_37 : Hid ((w4.alloc (.cells #[.slice (some ⟨g4, 0, none⟩) n n, .int .i64 al] 26)).heap[w3.heap.size]? = some (.cells #[.slice (some ⟨g3, 0, none⟩) N c3, .int .i64 y] 26)) := row_on FB6_30.out ((Below.refl (w4).heap.size (w4)).alloc (Nat.le_refl _) (.cells #[.slice (some ⟨g4, 0, none⟩) n n, .int .i64 al] 26))
  have FR4_38 : Hid (RowAt (w4.alloc (.cells #[.slice (some ⟨g4, 0, none⟩) n n, .int .i64 al] 26)) g4 l) := RowAt.on FR4_32.out ((Below.refl (w4).heap.size (w4)).alloc (Nat.le_refl _) (.cells #[.slice (some ⟨g4, 0, none⟩) n n, .int .i64 al] 26))
  clear FW_27 FA_28 FO3_29 FB6_30 FR4_32
  have N_39 : Hid (w4.heap.size < (w4.alloc (.cells #[.slice (some ⟨g4, 0, none⟩) n n, .int .i64 al] 26)).heap.size) := by simp [Hid]
  have FB8_40 : Hid ((w4.alloc (.cells #[.slice (some ⟨g4, 0, none⟩) n n, .int .i64 al] 26)).heap[w4.heap.size]? = some (.cells #[.slice (some ⟨g4, 0, none⟩) n n, .int .i64 al] 26)) := heap_new w4 _
  go_wp2_with fail
  refine (KI.out _ _ (RowAt.rd FR4_38.out)).mono ?_
  rintro e w5 ⟨g5, c5, rfl, hown5, hb5⟩
  have N_41 : Hid ((w4.alloc (.cells #[.slice (some ⟨g4, 0, none⟩) n n, .int .i64 al] 26)).heap.size ≤ (w5).heap.size) := (hb5).size
  have FW_42 : Hid (Below w.heap.size w (w5)) := bel_on (Nat.le_refl _) FW_34.out (hb5)
  have FA_43 : Hid ((w5).heap[w.heap.size]? = some (.cells #[.slice a n cap, .int .i64 al] 36)) := row_on FA_35.out (hb5)
  have FO3_44 : Hid (OwnN (w5) (w2).heap.size g3 N c3 E) := FO3_36.out.on (hb5)
  have FB6_45 : Hid ((w5).heap[w3.heap.size]? = some (.cells #[.slice (some ⟨g3, 0, none⟩) N c3, .int .i64 y] 26)) := row_on FB6_37.out (hb5)
  have FR4_46 : Hid (RowAt (w5) g4 l) := RowAt.on FR4_38.out (hb5)
  have FB8_47 : Hid ((w5).heap[w4.heap.size]? = some (.cells #[.slice (some ⟨g4, 0, none⟩) n n, .int .i64 al] 26)) := row_on FB8_40.out (hb5)
  clear FW_34 FA_35 FO3_36 FB6_37 FR4_38 FB8_40
  have N_48 : Hid ((w4.alloc (.cells #[.slice (some ⟨g4, 0, none⟩) n n, .int .i64 al] 26)).heap.size ≤ g5 ∧ g5 < w5.heap.size) := ⟨Nat.le_trans (by omega) hown5.ge, hown5.lt⟩
  have FO5_49 : Hid (OwnN (w5) (w4.alloc (.cells #[.slice (some ⟨g4, 0, none⟩) n n, .int .i64 al] 26)).heap.size g5 N c5 E) := hown5.mono (by omega)
  clear hown5 hb5
  have N_50 : Hid ((w5).heap.size ≤ (w5.alloc (.cells #[.slice (some ⟨g5, 0, none⟩) N c5, .int .i64 y] 26)).heap.size) := ((Below.refl (w5).heap.size (w5)).alloc (Nat.le_refl _) (.cells #[.slice (some ⟨g5, 0, none⟩) N c5, .int .i64 y] 26)).size
  have FW_51 : Hid (Below w.heap.size w (w5.alloc (.cells #[.slice (some ⟨g5, 0, none⟩) N c5, .int .i64 y] 26))) := bel_on (Nat.le_refl _) FW_42.out ((Below.refl (w5).heap.size (w5)).alloc (Nat.le_refl _) (.cells #[.slice (some ⟨g5, 0, none⟩) N c5, .int .i64 y] 26))
  have FA_52 : Hid ((w5.alloc (.cells #[.slice (some ⟨g5, 0, none⟩) N c5, .int .i64 y] 26)).heap[w.heap.size]? = some (.cells #[.slice a n cap, .int .i64 al] 36)) := row_on FA_43.out ((Below.refl (w5).heap.size (w5)).alloc (Nat.le_refl _) (.cells #[.slice (some ⟨g5, 0, none⟩) N c5, .int .i64 y] 26))
  have FO3_53 : Hid (OwnN (w5.alloc (.cells #[.slice (some ⟨g5, 0, none⟩) N c5, .int .i64 y] 26)) (w2).heap.size g3 N c3 E) := FO3_44.out.on ((Below.refl (w5).heap.size (w5)).alloc (Nat.le_refl _) (.cells #[.slice (some ⟨g5, 0, none⟩) N c5, .int .i64 y] 26))
  have FB6_54 : Hid ((w5.alloc (.cells #[.slice (some ⟨g5, 0, none⟩) N c5, .int .i64 y] 26)).heap[w3.heap.size]? = some (.cells #[.slice (some ⟨g3, 0, none⟩) N c3, .int .i64 y] 26)) := row_on FB6_45.out ((Below.refl (w5).heap.size (w5)).alloc (Nat.le_refl _) (.cells #[.slice (some ⟨g5, 0, none⟩) N c5, .int .i64 y] 26))
  have FR4_55 : Hid (RowAt (w5.alloc (.cells #[.slice (some ⟨g5, 0, none⟩) N c5, .int .i64 y] 26)) g4 l) := RowAt.on FR4_46.out ((Below.refl (w5).heap.size (w5)).alloc (Nat.le_refl _) (.cells #[.slice (some ⟨g5, 0, none⟩) N c5, .int .i64 y] 26))
  have FB8_56 : Hid ((w5.alloc (.cells #[.slice (some ⟨g5, 0, none⟩) N c5, .int .i64 y] 26)).heap[w4.heap.size]? = some (.cells #[.slice (some ⟨g4, 0, none⟩) n n, .int .i64 al] 26)) := row_on FB8_47.out ((Below.refl (w5).heap.size (w5)).alloc (Nat.le_refl _) (.cells #[.slice (some ⟨g5, 0, none⟩) N c5, .int .i64 y] 26))
  have FO5_57 : Hid (OwnN (w5.alloc (.cells #[.slice (some ⟨g5, 0, none⟩) N c5, .int .i64 y] 26)) (w4.alloc (.cells #[.slice (some ⟨g4, 0, none⟩) n n, .int .i64 al] 26)).heap.size g5 N c5 E) := FO5_49.out.on ((Below.refl (w5).heap.size (w5)).alloc (Nat.le_refl _) (.cells #[.slice (some ⟨g5, 0, none⟩) N c5, .int .i64 y] 26))
  clear FW_42 FA_43 FO3_44 FB6_45 FR4_46 FB8_47 FO5_49
  have N_58 : Hid (w5.heap.size < (w5.alloc (.cells #[.slice (some ⟨g5, 0, none⟩) N c5, .int .i64 y] 26)).heap.size) := by simp [Hid]
  have FB9_59 : Hid ((w5.alloc (.cells #[.slice (some ⟨g5, 0, none⟩) N c5, .int .i64 y] 26)).heap[w5.heap.size]? = some (.cells #[.slice (some ⟨g5, 0, none⟩) N c5, .int .i64 y] 26)) := heap_new w5 _
  have kB6 := row2_cells FB6_54.out
  have kB9 := row2_cells FB9_59.out
  go_wp2_with fail
  clear kB6 kB9
  refine (eqG (some ⟨g5, 0, none⟩) (some ⟨g3, 0, none⟩) y E N c5 c3 HEL.out HNN.out _ FO5_57.out.rd FO3_53.out.rd).mono ?_
  rintro e w6 ⟨rfl, hb6⟩
  have N_60 : Hid ((w5.alloc (.cells #[.slice (some ⟨g5, 0, none⟩) N c5, .int .i64 y] 26)).heap.size ≤ (w6).heap.size) := (hb6).size
  have FW_61 : Hid (Below w.heap.size w (w6)) := bel_on (Nat.le_refl _) FW_51.out (hb6)
  have FA_62 : Hid ((w6).heap[w.heap.size]? = some (.cells #[.slice a n cap, .int .i64 al] 36)) := row_on FA_52.out (hb6)
  have FO3_63 : Hid (OwnN (w6) (w2).heap.size g3 N c3 E) := FO3_53.out.on (hb6)
  have FB6_64 : Hid ((w6).heap[w3.heap.size]? = some (.cells #[.slice (some ⟨g3, 0, none⟩) N c3, .int .i64 y] 26)) := row_on FB6_54.out (hb6)
  have FR4_65 : Hid (RowAt (w6) g4 l) := RowAt.on FR4_55.out (hb6)
  have FB8_66 : Hid ((w6).heap[w4.heap.size]? = some (.cells #[.slice (some ⟨g4, 0, none⟩) n n, .int .i64 al] 26)) := row_on FB8_56.out (hb6)
  have FO5_67 : Hid (OwnN (w6) (w4.alloc (.cells #[.slice (some ⟨g4, 0, none⟩) n n, .int .i64 al] 26)).heap.size g5 N c5 E) := FO5_57.out.on (hb6)
  have FB9_68 : Hid ((w6).heap[w5.heap.size]? = some (.cells #[.slice (some ⟨g5, 0, none⟩) N c5, .int .i64 y] 26)) := row_on FB9_59.out (hb6)
  clear FW_51 FA_52 FO3_53 FB6_54 FR4_55 FB8_56 FO5_57 FB9_59 hb6
  have HQ : Hid (w6.cell? ⟨w4.heap.size, 0, none⟩ = some (.slice (some ⟨g4, 0, none⟩) n n) ∧ w6.cell? ⟨w4.heap.size, 1, none⟩ = some (.int .i64 al) ∧ w6.cell? ⟨w.heap.size, 0, none⟩ = some (.slice a n cap) ∧ w6.cell? ⟨w.heap.size, 1, none⟩ = some (.int .i64 al)) := ⟨(row2_cells FB8_66.out).1, (row2_cells FB8_66.out).2.1, (row2_cells FA_62.out).1, (row2_cells FA_62.out).2.1⟩
  have HRw : Hid (Rd w6 a l) := HR.out.keep FW_61.out (Nat.le_refl _)
  go_wp2_with fail
  go_region_held3 (fun w' => w'.cell? ⟨w4.heap.size, 0, none⟩ = some (.slice (some ⟨g4, 0, none⟩) n n) ∧ w'.cell? ⟨w4.heap.size, 1, none⟩ = some (.int .i64 al) ∧ w'.cell? ⟨w.heap.size, 0, none⟩ = some (.slice a n cap) ∧ w'.cell? ⟨w.heap.size, 1, none⟩ = some (.int .i64 al) ∧ Below w6.heap.size w6 w') (first | (exact q4_keep HQ.out HBz.out) | (exact q4_keep HQ.out (q4_on (by assumption) (by assumption))) | (exact q4_keep HQ.out (Below.refl _ _).drew)) (first | (go_at_call 23; refine (toG a al l n cap HL.out hn _ ?_).mono ?_; (exact HRw.out.on (q4_bel (by assumption))); rintro e wt ⟨gt, rfl, hgt, hrowt, hbt⟩) | (go_at_call 24; refine (eqG (some ⟨g4, 0, none⟩) (some ⟨gt, 0, none⟩) al l n n n HL.out hn _ ?_ ?_).mono ?_; (exact (RowAt.rd FR4_65.out).on (q4_bel (by assumption))); (exact hrowt.rd); rintro e w7 ⟨rfl, hb7⟩; have HBz : Hid (Below w6.heap.size w6 w7) := q4_on hb7 (by assumption)))
  rename_i HH
  clear HH hbt hb7 hrowt hgt HQ HRw
  have N_69 : Hid ((w6).heap.size ≤ (w7).heap.size) := (HBz.out).size
  have FW_70 : Hid (Below w.heap.size w (w7)) := bel_on (Nat.le_refl _) FW_61.out (HBz.out)
  have FA_71 : Hid ((w7).heap[w.heap.size]? = some (.cells #[.slice a n cap, .int .i64 al] 36)) := row_on FA_62.out (HBz.out)
  have FO3_72 : Hid (OwnN (w7) (w2).heap.size g3 N c3 E) := FO3_63.out.on (HBz.out)
  have FB6_73 : Hid ((w7).heap[w3.heap.size]? = some (.cells #[.slice (some ⟨g3, 0, none⟩) N c3, .int .i64 y] 26)) := row_on FB6_64.out (HBz.out)
  have FR4_74 : Hid (RowAt (w7) g4 l) := RowAt.on FR4_65.out (HBz.out)
  have FB8_75 : Hid ((w7).heap[w4.heap.size]? = some (.cells #[.slice (some ⟨g4, 0, none⟩) n n, .int .i64 al] 26)) := row_on FB8_66.out (HBz.out)
  have FO5_76 : Hid (OwnN (w7) (w4.alloc (.cells #[.slice (some ⟨g4, 0, none⟩) n n, .int .i64 al] 26)).heap.size g5 N c5 E) := FO5_67.out.on (HBz.out)
  have FB9_77 : Hid ((w7).heap[w5.heap.size]? = some (.cells #[.slice (some ⟨g5, 0, none⟩) N c5, .int .i64 y] 26)) := row_on FB9_68.out (HBz.out)
  clear FW_61 FA_62 FO3_63 FB6_64 FR4_65 FB8_66 FO5_67 FB9_68 HBz
  have kB8 := row2_cells FB8_75.out
  go_wp2_with fail
  clear kB8
  refine (markG _ g4 al l n n 1 1 rfl hn (by omega) _ (RowAt.ownN (B := w.heap.size) FR4_74.out (by have n0_ := N_4.out; have n1_ := N_6.out; have n2_ := N_9.out; have n3_ := N_12.out; have n4_ := N_14.out; have n5_ := N_18.out; have n6_ := N_24.out; have n7_ := N_26.out; have n8_ := N_31.out; have n9_ := N_39.out; have n10_ := N_41.out; have n11_ := N_48.out; have n12_ := N_58.out; have n13_ := N_60.out; have n14_ := N_69.out; omega) HL.out hn)).mono ?_
  rintro e w8 ⟨rfl, _, hg8⟩
  clear FR4_74
  clear FB8_75
  have N_78 : Hid ((w7).heap.size ≤ (w8).heap.size) := (hg8).size
  have FW_79 : Hid (Below w.heap.size w (w8)) := FW_70.out.grown (hg8) FW_70.out.size (fun k hk => by cases hk; exact (by have n0_ := N_4.out; have n1_ := N_6.out; have n2_ := N_9.out; have n3_ := N_12.out; have n4_ := N_14.out; have n5_ := N_18.out; have n6_ := N_24.out; have n7_ := N_26.out; have n8_ := N_31.out; have n9_ := N_39.out; have n10_ := N_41.out; have n11_ := N_48.out; have n12_ := N_58.out; have n13_ := N_60.out; have n14_ := N_69.out; have n15_ := N_78.out; omega))
  have FA_80 : Hid ((w8).heap[w.heap.size]? = some (.cells #[.slice a n cap, .int .i64 al] 36)) := grown_row (hg8) FA_71.out (fun e => by have e_ := Option.some.inj e; have n0_ := N_4.out; have n1_ := N_6.out; have n2_ := N_9.out; have n3_ := N_12.out; have n4_ := N_14.out; have n5_ := N_18.out; have n6_ := N_24.out; have n7_ := N_26.out; have n8_ := N_31.out; have n9_ := N_39.out; have n10_ := N_41.out; have n11_ := N_48.out; have n12_ := N_58.out; have n13_ := N_60.out; have n14_ := N_69.out; have n15_ := N_78.out; omega)
  have FO3_81 : Hid (OwnN (w8) (w2).heap.size g3 N c3 E) := FO3_72.out.grown (hg8) (by have n0_ := N_4.out; have n1_ := N_6.out; have n2_ := N_9.out; have n3_ := N_12.out; have n4_ := N_14.out; have n5_ := N_18.out; have n6_ := N_24.out; have n7_ := N_26.out; have n8_ := N_31.out; have n9_ := N_39.out; have n10_ := N_41.out; have n11_ := N_48.out; have n12_ := N_58.out; have n13_ := N_60.out; have n14_ := N_69.out; have n15_ := N_78.out; omega)
  have FB6_82 : Hid ((w8).heap[w3.heap.size]? = some (.cells #[.slice (some ⟨g3, 0, none⟩) N c3, .int .i64 y] 26)) := grown_row (hg8) FB6_73.out (fun e => by have e_ := Option.some.inj e; have n0_ := N_4.out; have n1_ := N_6.out; have n2_ := N_9.out; have n3_ := N_12.out; have n4_ := N_14.out; have n5_ := N_18.out; have n6_ := N_24.out; have n7_ := N_26.out; have n8_ := N_31.out; have n9_ := N_39.out; have n10_ := N_41.out; have n11_ := N_48.out; have n12_ := N_58.out; have n13_ := N_60.out; have n14_ := N_69.out; have n15_ := N_78.out; omega)
  have FO5_83 : Hid (OwnN (w8) (w4.alloc (.cells #[.slice (some ⟨g4, 0, none⟩) n n, .int .i64 al] 26)).heap.size g5 N c5 E) := FO5_76.out.grown (hg8) (by have n0_ := N_4.out; have n1_ := N_6.out; have n2_ := N_9.out; have n3_ := N_12.out; have n4_ := N_14.out; have n5_ := N_18.out; have n6_ := N_24.out; have n7_ := N_26.out; have n8_ := N_31.out; have n9_ := N_39.out; have n10_ := N_41.out; have n11_ := N_48.out; have n12_ := N_58.out; have n13_ := N_60.out; have n14_ := N_69.out; have n15_ := N_78.out; omega)
  have FB9_84 : Hid ((w8).heap[w5.heap.size]? = some (.cells #[.slice (some ⟨g5, 0, none⟩) N c5, .int .i64 y] 26)) := grown_row (hg8) FB9_77.out (fun e => by have e_ := Option.some.inj e; have n0_ := N_4.out; have n1_ := N_6.out; have n2_ := N_9.out; have n3_ := N_12.out; have n4_ := N_14.out; have n5_ := N_18.out; have n6_ := N_24.out; have n7_ := N_26.out; have n8_ := N_31.out; have n9_ := N_39.out; have n10_ := N_41.out; have n11_ := N_48.out; have n12_ := N_58.out; have n13_ := N_60.out; have n14_ := N_69.out; have n15_ := N_78.out; omega)
  clear FW_70 FA_71 FO3_72 FB6_73 FO5_76 FB9_77 hg8
  have kB6 := row2_cells FB6_82.out
  have kB9 := row2_cells FB9_84.out
  go_wp2_with fail
  clear kB6 kB9
  refine (eqG (some ⟨g5, 0, none⟩) (some ⟨g3, 0, none⟩) y E N c5 c3 HEL.out HNN.out _ FO5_83.out.rd FO3_81.out.rd).mono ?_
  rintro e w9 ⟨rfl, hb9⟩
  have N_85 : Hid ((w8).heap.size ≤ (w9).heap.size) := (hb9).size
  have FW_86 : Hid (Below w.heap.size w (w9)) := bel_on (Nat.le_refl _) FW_79.out (hb9)
  have FA_87 : Hid ((w9).heap[w.heap.size]? = some (.cells #[.slice a n cap, .int .i64 al] 36)) := row_on FA_80.out (hb9)
  have FO3_88 : Hid (OwnN (w9) (w2).heap.size g3 N c3 E) := FO3_81.out.on (hb9)
  have FB6_89 : Hid ((w9).heap[w3.heap.size]? = some (.cells #[.slice (some ⟨g3, 0, none⟩) N c3, .int .i64 y] 26)) := row_on FB6_82.out (hb9)
  have FO5_90 : Hid (OwnN (w9) (w4.alloc (.cells #[.slice (some ⟨g4, 0, none⟩) n n, .int .i64 al] 26)).heap.size g5 N c5 E) := FO5_83.out.on (hb9)
  have FB9_91 : Hid ((w9).heap[w5.heap.size]? = some (.cells #[.slice (some ⟨g5, 0, none⟩) N c5, .int .i64 y] 26)) := row_on FB9_84.out (hb9)
  clear FW_79 FA_80 FO3_81 FB6_82 FO5_83 FB9_84 hb9
  have kB9 := row2_cells FB9_91.out
  go_wp2_with fail
  clear kB9
  refine (markG _ g5 y E N c5 1 1 rfl HNN.out (by omega) _ FO5_90.out).mono ?_
  rintro e w10 ⟨rfl, hown10, hg10⟩
  clear FO5_90
  have N_92 : Hid ((w9).heap.size ≤ (w10).heap.size) := (hg10).size
  have FW_93 : Hid (Below w.heap.size w (w10)) := FW_86.out.grown (hg10) FW_86.out.size (fun k hk => by cases hk; exact (by have n0_ := N_4.out; have n1_ := N_6.out; have n2_ := N_9.out; have n3_ := N_12.out; have n4_ := N_14.out; have n5_ := N_18.out; have n6_ := N_24.out; have n7_ := N_26.out; have n8_ := N_31.out; have n9_ := N_39.out; have n10_ := N_41.out; have n11_ := N_48.out; have n12_ := N_58.out; have n13_ := N_60.out; have n14_ := N_69.out; have n15_ := N_78.out; have n16_ := N_85.out; have n17_ := N_92.out; omega))
  have FA_94 : Hid ((w10).heap[w.heap.size]? = some (.cells #[.slice a n cap, .int .i64 al] 36)) := grown_row (hg10) FA_87.out (fun e => by have e_ := Option.some.inj e; have n0_ := N_4.out; have n1_ := N_6.out; have n2_ := N_9.out; have n3_ := N_12.out; have n4_ := N_14.out; have n5_ := N_18.out; have n6_ := N_24.out; have n7_ := N_26.out; have n8_ := N_31.out; have n9_ := N_39.out; have n10_ := N_41.out; have n11_ := N_48.out; have n12_ := N_58.out; have n13_ := N_60.out; have n14_ := N_69.out; have n15_ := N_78.out; have n16_ := N_85.out; have n17_ := N_92.out; omega)
  have FO3_95 : Hid (OwnN (w10) (w2).heap.size g3 N c3 E) := FO3_88.out.grown (hg10) (by have n0_ := N_4.out; have n1_ := N_6.out; have n2_ := N_9.out; have n3_ := N_12.out; have n4_ := N_14.out; have n5_ := N_18.out; have n6_ := N_24.out; have n7_ := N_26.out; have n8_ := N_31.out; have n9_ := N_39.out; have n10_ := N_41.out; have n11_ := N_48.out; have n12_ := N_58.out; have n13_ := N_60.out; have n14_ := N_69.out; have n15_ := N_78.out; have n16_ := N_85.out; have n17_ := N_92.out; omega)
  have FB6_96 : Hid ((w10).heap[w3.heap.size]? = some (.cells #[.slice (some ⟨g3, 0, none⟩) N c3, .int .i64 y] 26)) := grown_row (hg10) FB6_89.out (fun e => by have e_ := Option.some.inj e; have n0_ := N_4.out; have n1_ := N_6.out; have n2_ := N_9.out; have n3_ := N_12.out; have n4_ := N_14.out; have n5_ := N_18.out; have n6_ := N_24.out; have n7_ := N_26.out; have n8_ := N_31.out; have n9_ := N_39.out; have n10_ := N_41.out; have n11_ := N_48.out; have n12_ := N_58.out; have n13_ := N_60.out; have n14_ := N_69.out; have n15_ := N_78.out; have n16_ := N_85.out; have n17_ := N_92.out; omega)
  have FB9_97 : Hid ((w10).heap[w5.heap.size]? = some (.cells #[.slice (some ⟨g5, 0, none⟩) N c5, .int .i64 y] 26)) := grown_row (hg10) FB9_91.out (fun e => by have e_ := Option.some.inj e; have n0_ := N_4.out; have n1_ := N_6.out; have n2_ := N_9.out; have n3_ := N_12.out; have n4_ := N_14.out; have n5_ := N_18.out; have n6_ := N_24.out; have n7_ := N_26.out; have n8_ := N_31.out; have n9_ := N_39.out; have n10_ := N_41.out; have n11_ := N_48.out; have n12_ := N_58.out; have n13_ := N_60.out; have n14_ := N_69.out; have n15_ := N_78.out; have n16_ := N_85.out; have n17_ := N_92.out; omega)
  clear FW_86 FA_87 FO3_88 FB6_89 FB9_91 hg10
  have FM5_98 : Hid (OwnN (w10) (w4.alloc (.cells #[.slice (some ⟨g4, 0, none⟩) n n, .int .i64 al] 26)).heap.size g5 N c5 (marks 1 N)) := hown10
  clear hown10
  have kB9 := row2_cells FB9_97.out
  go_wp2_with fail
  clear kB9
  refine (heldG (some ⟨g5, 0, none⟩) y N c5 1 1 rfl HNN.out (by omega) _ FM5_98.out.rd).mono ?_
  rintro e w11 ⟨rfl, hb11⟩
  have N_99 : Hid ((w10).heap.size ≤ (w11).heap.size) := (hb11).size
  have FW_100 : Hid (Below w.heap.size w (w11)) := bel_on (Nat.le_refl _) FW_93.out (hb11)
  have FA_101 : Hid ((w11).heap[w.heap.size]? = some (.cells #[.slice a n cap, .int .i64 al] 36)) := row_on FA_94.out (hb11)
  have FO3_102 : Hid (OwnN (w11) (w2).heap.size g3 N c3 E) := FO3_95.out.on (hb11)
  have FB6_103 : Hid ((w11).heap[w3.heap.size]? = some (.cells #[.slice (some ⟨g3, 0, none⟩) N c3, .int .i64 y] 26)) := row_on FB6_96.out (hb11)
  have FB9_104 : Hid ((w11).heap[w5.heap.size]? = some (.cells #[.slice (some ⟨g5, 0, none⟩) N c5, .int .i64 y] 26)) := row_on FB9_97.out (hb11)
  have FM5_105 : Hid (OwnN (w11) (w4.alloc (.cells #[.slice (some ⟨g4, 0, none⟩) n n, .int .i64 al] 26)).heap.size g5 N c5 (marks 1 N)) := FM5_98.out.on (hb11)
  clear FW_93 FA_94 FO3_95 FB6_96 FB9_97 FM5_98 hb11
  have kA := row2_cells FA_101.out
  go_wp2_with fail
  clear kA
  refine (toG a al l n cap HL.out hn _ (HR.out.keep FW_100.out (Nat.le_refl _))).mono ?_
  rintro e w12 ⟨g12, rfl, hg12, hrow12, hb12⟩
  have N_106 : Hid ((w11).heap.size ≤ (w12).heap.size) := (hb12).size
  have FW_107 : Hid (Below w.heap.size w (w12)) := bel_on (Nat.le_refl _) FW_100.out (hb12)
  have FA_108 : Hid ((w12).heap[w.heap.size]? = some (.cells #[.slice a n cap, .int .i64 al] 36)) := row_on FA_101.out (hb12)
  have FO3_109 : Hid (OwnN (w12) (w2).heap.size g3 N c3 E) := FO3_102.out.on (hb12)
  have FB6_110 : Hid ((w12).heap[w3.heap.size]? = some (.cells #[.slice (some ⟨g3, 0, none⟩) N c3, .int .i64 y] 26)) := row_on FB6_103.out (hb12)
  have FB9_111 : Hid ((w12).heap[w5.heap.size]? = some (.cells #[.slice (some ⟨g5, 0, none⟩) N c5, .int .i64 y] 26)) := row_on FB9_104.out (hb12)
  have FM5_112 : Hid (OwnN (w12) (w4.alloc (.cells #[.slice (some ⟨g4, 0, none⟩) n n, .int .i64 al] 26)).heap.size g5 N c5 (marks 1 N)) := FM5_105.out.on (hb12)
  clear FW_100 FA_101 FO3_102 FB6_103 FB9_104 FM5_105
  have N_113 : Hid ((w11).heap.size ≤ g12 ∧ g12 < w12.heap.size) := ⟨hg12, hrow12.lt⟩
  have FR12_114 : Hid (RowAt (w12) g12 l) := hrow12
  clear hg12 hrow12 hb12
  go_wp2_with fail
  refine (KI.out _ _ (RowAt.rd FR12_114.out)).mono ?_
  rintro e w13 ⟨g13, c13, rfl, hown13, hb13⟩
  have N_115 : Hid ((w12).heap.size ≤ (w13).heap.size) := (hb13).size
  have FW_116 : Hid (Below w.heap.size w (w13)) := bel_on (Nat.le_refl _) FW_107.out (hb13)
  have FA_117 : Hid ((w13).heap[w.heap.size]? = some (.cells #[.slice a n cap, .int .i64 al] 36)) := row_on FA_108.out (hb13)
  have FO3_118 : Hid (OwnN (w13) (w2).heap.size g3 N c3 E) := FO3_109.out.on (hb13)
  have FB6_119 : Hid ((w13).heap[w3.heap.size]? = some (.cells #[.slice (some ⟨g3, 0, none⟩) N c3, .int .i64 y] 26)) := row_on FB6_110.out (hb13)
  have FB9_120 : Hid ((w13).heap[w5.heap.size]? = some (.cells #[.slice (some ⟨g5, 0, none⟩) N c5, .int .i64 y] 26)) := row_on FB9_111.out (hb13)
  have FM5_121 : Hid (OwnN (w13) (w4.alloc (.cells #[.slice (some ⟨g4, 0, none⟩) n n, .int .i64 al] 26)).heap.size g5 N c5 (marks 1 N)) := FM5_112.out.on (hb13)
  have FR12_122 : Hid (RowAt (w13) g12 l) := RowAt.on FR12_114.out (hb13)
  clear FW_107 FA_108 FO3_109 FB6_110 FB9_111 FM5_112 FR12_114
  have N_123 : Hid ((w12).heap.size ≤ g13 ∧ g13 < w13.heap.size) := ⟨Nat.le_trans (by omega) hown13.ge, hown13.lt⟩
  have FO13_124 : Hid (OwnN (w13) (w12).heap.size g13 N c13 E) := hown13.mono (by omega)
  clear hown13 hb13
  clear FR12_122
  have N_125 : Hid ((w13).heap.size ≤ (w13.alloc (.cells #[.slice (some ⟨g13, 0, none⟩) N c13, .int .i64 y] 26)).heap.size) := ((Below.refl (w13).heap.size (w13)).alloc (Nat.le_refl _) (.cells #[.slice (some ⟨g13, 0, none⟩) N c13, .int .i64 y] 26)).size
  have FW_126 : Hid (Below w.heap.size w (w13.alloc (.cells #[.slice (some ⟨g13, 0, none⟩) N c13, .int .i64 y] 26))) := bel_on (Nat.le_refl _) FW_116.out ((Below.refl (w13).heap.size (w13)).alloc (Nat.le_refl _) (.cells #[.slice (some ⟨g13, 0, none⟩) N c13, .int .i64 y] 26))
  have FA_127 : Hid ((w13.alloc (.cells #[.slice (some ⟨g13, 0, none⟩) N c13, .int .i64 y] 26)).heap[w.heap.size]? = some (.cells #[.slice a n cap, .int .i64 al] 36)) := row_on FA_117.out ((Below.refl (w13).heap.size (w13)).alloc (Nat.le_refl _) (.cells #[.slice (some ⟨g13, 0, none⟩) N c13, .int .i64 y] 26))
  have FO3_128 : Hid (OwnN (w13.alloc (.cells #[.slice (some ⟨g13, 0, none⟩) N c13, .int .i64 y] 26)) (w2).heap.size g3 N c3 E) := FO3_118.out.on ((Below.refl (w13).heap.size (w13)).alloc (Nat.le_refl _) (.cells #[.slice (some ⟨g13, 0, none⟩) N c13, .int .i64 y] 26))
  have FB6_129 : Hid ((w13.alloc (.cells #[.slice (some ⟨g13, 0, none⟩) N c13, .int .i64 y] 26)).heap[w3.heap.size]? = some (.cells #[.slice (some ⟨g3, 0, none⟩) N c3, .int .i64 y] 26)) := row_on FB6_119.out ((Below.refl (w13).heap.size (w13)).alloc (Nat.le_refl _) (.cells #[.slice (some ⟨g13, 0, none⟩) N c13, .int .i64 y] 26))
  have FB9_130 : Hid ((w13.alloc (.cells #[.slice (some ⟨g13, 0, none⟩) N c13, .int .i64 y] 26)).heap[w5.heap.size]? = some (.cells #[.slice (some ⟨g5, 0, none⟩) N c5, .int .i64 y] 26)) := row_on FB9_120.out ((Below.refl (w13).heap.size (w13)).alloc (Nat.le_refl _) (.cells #[.slice (some ⟨g13, 0, none⟩) N c13, .int .i64 y] 26))
  have FM5_131 : Hid (OwnN (w13.alloc (.cells #[.slice (some ⟨g13, 0, none⟩) N c13, .int .i64 y] 26)) (w4.alloc (.cells #[.slice (some ⟨g4, 0, none⟩) n n, .int .i64 al] 26)).heap.size g5 N c5 (marks 1 N)) := FM5_121.out.on ((Below.refl (w13).heap.size (w13)).alloc (Nat.le_refl _) (.cells #[.slice (some ⟨g13, 0, none⟩) N c13, .int .i64 y] 26))
  have FO13_132 : Hid (OwnN (w13.alloc (.cells #[.slice (some ⟨g13, 0, none⟩) N c13, .int .i64 y] 26)) (w12).heap.size g13 N c13 E) := FO13_124.out.on ((Below.refl (w13).heap.size (w13)).alloc (Nat.le_refl _) (.cells #[.slice (some ⟨g13, 0, none⟩) N c13, .int .i64 y] 26))
  clear FW_116 FA_117 FO3_118 FB6_119 FB9_120 FM5_121 FO13_124
  have N_133 : Hid (w13.heap.size < (w13.alloc (.cells #[.slice (some ⟨g13, 0, none⟩) N c13, .int .i64 y] 26)).heap.size) := by simp [Hid]
  have FB14_134 : Hid ((w13.alloc (.cells #[.slice (some ⟨g13, 0, none⟩) N c13, .int .i64 y] 26)).heap[w13.heap.size]? = some (.cells #[.slice (some ⟨g13, 0, none⟩) N c13, .int .i64 y] 26)) := heap_new w13 _
  have kB6 := row2_cells FB6_129.out
  have kB14 := row2_cells FB14_134.out
  go_wp2_with fail
  clear kB6 kB14
  refine (eqG (some ⟨g13, 0, none⟩) (some ⟨g3, 0, none⟩) y E N c13 c3 HEL.out HNN.out _ FO13_132.out.rd FO3_128.out.rd).mono ?_
  rintro e w14 ⟨rfl, hb14⟩
  have N_135 : Hid ((w13.alloc (.cells #[.slice (some ⟨g13, 0, none⟩) N c13, .int .i64 y] 26)).heap.size ≤ (w14).heap.size) := (hb14).size
  have FW_136 : Hid (Below w.heap.size w (w14)) := bel_on (Nat.le_refl _) FW_126.out (hb14)
  have FA_137 : Hid ((w14).heap[w.heap.size]? = some (.cells #[.slice a n cap, .int .i64 al] 36)) := row_on FA_127.out (hb14)
  have FO3_138 : Hid (OwnN (w14) (w2).heap.size g3 N c3 E) := FO3_128.out.on (hb14)
  have FB6_139 : Hid ((w14).heap[w3.heap.size]? = some (.cells #[.slice (some ⟨g3, 0, none⟩) N c3, .int .i64 y] 26)) := row_on FB6_129.out (hb14)
  have FB9_140 : Hid ((w14).heap[w5.heap.size]? = some (.cells #[.slice (some ⟨g5, 0, none⟩) N c5, .int .i64 y] 26)) := row_on FB9_130.out (hb14)
  have FM5_141 : Hid (OwnN (w14) (w4.alloc (.cells #[.slice (some ⟨g4, 0, none⟩) n n, .int .i64 al] 26)).heap.size g5 N c5 (marks 1 N)) := FM5_131.out.on (hb14)
  have FO13_142 : Hid (OwnN (w14) (w12).heap.size g13 N c13 E) := FO13_132.out.on (hb14)
  have FB14_143 : Hid ((w14).heap[w13.heap.size]? = some (.cells #[.slice (some ⟨g13, 0, none⟩) N c13, .int .i64 y] 26)) := row_on FB14_134.out (hb14)
  clear FW_126 FA_127 FO3_128 FB6_129 FB9_130 FM5_131 FO13_132 FB14_134 hb14
  have kB9 := row2_cells FB9_140.out
  go_wp2_with fail
  clear kB9
  refine (heldG (some ⟨g5, 0, none⟩) y N c5 1 1 rfl HNN.out (by omega) _ FM5_141.out.rd).mono ?_
  rintro e w15 ⟨rfl, hb15⟩
  have N_144 : Hid ((w14).heap.size ≤ (w15).heap.size) := (hb15).size
  have FW_145 : Hid (Below w.heap.size w (w15)) := bel_on (Nat.le_refl _) FW_136.out (hb15)
  have FA_146 : Hid ((w15).heap[w.heap.size]? = some (.cells #[.slice a n cap, .int .i64 al] 36)) := row_on FA_137.out (hb15)
  have FO3_147 : Hid (OwnN (w15) (w2).heap.size g3 N c3 E) := FO3_138.out.on (hb15)
  have FB6_148 : Hid ((w15).heap[w3.heap.size]? = some (.cells #[.slice (some ⟨g3, 0, none⟩) N c3, .int .i64 y] 26)) := row_on FB6_139.out (hb15)
  have FB9_149 : Hid ((w15).heap[w5.heap.size]? = some (.cells #[.slice (some ⟨g5, 0, none⟩) N c5, .int .i64 y] 26)) := row_on FB9_140.out (hb15)
  have FM5_150 : Hid (OwnN (w15) (w4.alloc (.cells #[.slice (some ⟨g4, 0, none⟩) n n, .int .i64 al] 26)).heap.size g5 N c5 (marks 1 N)) := FM5_141.out.on (hb15)
  have FO13_151 : Hid (OwnN (w15) (w12).heap.size g13 N c13 E) := FO13_142.out.on (hb15)
  have FB14_152 : Hid ((w15).heap[w13.heap.size]? = some (.cells #[.slice (some ⟨g13, 0, none⟩) N c13, .int .i64 y] 26)) := row_on FB14_143.out (hb15)
  clear FW_136 FA_137 FO3_138 FB6_139 FB9_140 FM5_141 FO13_142 FB14_143 hb15
  go_wp2
  go_ret
  exact ⟨rfl, FW_145.out⟩

theorem walk (al : Int) (a : Option Addr) (len cap : Nat) (z : List Int) (x : Int) (w : World) (_ : (Lit.int .i64 al).wf = true) (h : IsRow .i64 w a len cap z) (_ : (Lit.int .i64 x).wf = true) :
    Calls Try.prog 9 #[.agg #[.slice a len cap, .int .i64 al], .int .i64 x] w fun e w' => e = .returned (.bool true) ∧ Below w.heap.size w w' := by
  obtain ⟨hr, hl, hc, hm⟩ := rd_of_row h
  by_cases hn : len ≤ 1048576
  · exact walk_in al a (z.take len) len cap x hl hn w hr
  · clear hr hl hc h
    have HLE : Hid (leftN 1048576 len = -1) := leftN_no (by omega)
    have HW : Hid (Below w.heap.size w (w.alloc (.cells #[.slice a len cap, .int .i64 al] 36))) := (box2 w _ _ _).2.1
    go_enter Try.func9, Try.ntmps9
    go_wp2_with fail
    refine (szGL a al len cap 1048576 hm (by omega) (by omega) _).mono ?_
    rintro e w1 ⟨rfl, hb1⟩
    rw [HLE.out]
    have HW1 : Hid (Below w.heap.size w w1) := HW.out.trans (hb1.mono HW.out.size)
    clear hb1 HW
    go_wp2
    go_ret
    exact ⟨rfl, HW1.out⟩

set_option maxRecDepth 100000 in
theorem lifted (os : Os) (started : os.Started) (H : Type) (enc : TypeId × Value → H) :
    ReturnsInHanded {} Try.checked os 9 .any (Rows.fnExactPassSpec.pre6 enc Try.prog Try.f9 Rows.fnExactPassRow.domain false) (Rows.fnExactPassSpec.post enc Try.prog Try.f9 false true false false) := by
  refine returnsInHanded_of_change (C := Try.checked) own started (by kernel_rfl) Try.func9
    (ChangeSpec.witness6 (enc := enc) (C := Try.checked) false ⟨#[], #[.agg #[.slice none 0 0, .int .i64 0], .int .i64 0], []⟩ 8 (by kernel_rfl) (by kernel_rfl) (by kernel_rfl) (by kernel_rfl)) ?_
  intro W base args ds gs before hval0 hW hcnd _
  have hval : ∀ (j : Nat) t v, Try.f9.params[j]? = some t → args[j]? = some v → Value.okWide Try.prog W .any base t v := hval0
  have hW' := hW
  obtain ⟨p, q, hA0, hV, rfl, hfz, hnd⟩ := hW
  have hA : DataW.TrodAll enc Try.prog W 0 (fun _ => true) true Try.f9.params.toList args.toList ds p := hA0
  rw [Try.params9] at hA hval
  obtain ⟨v0, vs0, d0, ds0, p0, q0, hargs, rfl, rfl, h0, r0⟩ := trodAll_cons hA
  obtain ⟨v1, vs1, d1, ds1, p1, q1, rfl, rfl, rfl, h1, r1⟩ := trodAll_cons r0
  obtain ⟨rfl, rfl, rfl⟩ := trodAll_nil r1
  obtain rfl : args = #[v0, v1] := by cases args; simp_all
  obtain ⟨rfl, rfl⟩ := trodVars_none hV
  have k0 := h0
  have lt0 : ∀ x ∈ p0, x.block < W.heap.size := by obtain ⟨m, hm⟩ := k0; exact DataW.trod_lt m _ _ _ hm
  obtain ⟨p0c, a0, len0, cap0, z0, rfl, wp0, w0⟩ := open_guard (hval 0 36 v0 rfl rfl) h0
  obtain ⟨a1, rfl, rfl, rfl, w1⟩ := open_int Try.underlying3 (hval 1 3 v1 rfl rfl) h1
  clear hA0 hval0
  refine (walk p0c a0 len0 cap0 z0 a1 W wp0 w0 w1).mono fun e W' ⟨he, bel⟩ => ?_
  subst he
  exact ⟨_, rfl, _, _, _, [], _, [], hW', trodAll_mk1 (shut_bool Try.underlying4 _), (trodAll_cons_mk (Below.trod laidOut (by kernel_rfl) (of_decide_eq_true (by kernel_rfl)) k0 bel lt0) (trodAll_cons_mk (shut_int Try.underlying3 w1) trodAll_mk0)), rfl, bel.frame _, fun h => by cases h⟩

theorem over : Rows.fnExactPassRow.holds Try.pinned (OpenSpec.ofChange Rows.fnExactPassSpec) :=
  OpenClaim.holds_of_wide 9 Try.f9 rfl rfl rfl rfl rfl rfl rfl ⟨rfl, rfl, rfl, rfl, rfl⟩ rfl rfl rfl rfl rfl (by kernel_rfl) Try.func9 (by kernel_rfl)
    (of_decide_eq_true (by kernel_rfl)) (by unfold Func.isWrapper; first | (rw [if_pos (by decide +kernel)]; kernel_rfl) | (rw [if_neg (by decide +kernel)]; exact ⟨rfl, rfl⟩))
    (fun os started H enc _ => lifted os started H enc)

end Go.Proofs.Ytgpdkodnggpkeaa.fnExactPass
namespace Go.Proofs.Ytgpdkodnggpkeaa
theorem fnExactPass_holds : Rows.FnExactPassSaid :=
  fnExactPass.over
#print axioms fnExactPass_holds
end Go.Proofs.Ytgpdkodnggpkeaa
