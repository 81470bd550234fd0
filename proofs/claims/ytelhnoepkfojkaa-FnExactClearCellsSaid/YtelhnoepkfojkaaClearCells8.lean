/-
  Proved: for every arena and region the call of FnExactClearCells returns true: ClearCells of the program answers as that of the specification (arenas of more than 1048576 cells the law itself lets by), it writes into no argument, and its answer owns its memory. No conditions.
-/
import Derived.Test.YtelhnoepkfojkaaRows
import Derived.Test.YtelhnoepkfojkaaOwn8
import Derived.Test.YtelhnoepkfojkaaOpen8
import Derived.OpenShut
import Derived.ShutString
import Derived.ChangeOld
import Derived.Below
import Derived.OpenVars
import Derived.Deep.DeepHandedRow
namespace Go.Proofs.Ytelhnoepkfojkaa.fnExactClearCells
open Go.ChangeShapes Go.WideShapes Go.ChangeAt Go.RowKit Go.PlainAid
open Go.ChangeMaps (open_string shut_string)
set_option linter.unusedVariables false

theorem own : ownKnob Try.prog.godebug = none := by kernel_rfl
theorem laidOut : laidOutB Try.prog = true := by kernel_rfl

set_option maxRecDepth 100000 in
set_option maxHeartbeats 8000000 in
theorem walk_in (a : Option Addr) (l : List Int) (n cap : Nat) (f s : Int) (hl : l.length = n) (hn : n ≤ 1048576) (w : World) (hr : Rd w a l) :
    Calls Try.prog 4 #[.agg #[.slice a n cap], .agg #[.int .i64 f, .int .i64 s]] w fun e w' => e = .returned (.bool true) ∧ Below w.heap.size w w' := by
  have HS0 : Hid (SL w _ a l _ _ _) := sl_start w a l (.slice a n cap) (.int .i64 f) (.int .i64 s) 24 26 hr
  have HL : Hid (l.length = n) := hl
  have HR : Hid (Rd w a l) := hr
  clear hr hl
  obtain ⟨E, HE⟩ : ∃ E, Hid (clL l f s = E) := ⟨_, rfl⟩
  have HEL : Hid (E.length = n) := by have := clL_len l f s; rw [HL.out, HE.out] at this; exact this
  go_enter Try.func4, Try.ntmps4
  go_wp2_with fail
  refine (szA a n cap (by omega) _).mono ?_
  rintro e w1 ⟨rfl, hb1⟩
  rw [if_pos hn]
  have HS1 : Hid (SL w w1 a l (.slice a n cap) (.int .i64 f) (.int .i64 s)) := HS0.out.keep hb1
  clear hb1 HS0
  go_upto_region 5 with fail
  go_cut [6] (fun pz wc => ∃ (b c : Nat) (q : Option Addr), pz = .pointer (some ⟨b, 0, none⟩) ∧ Hid (BoxO w1 wc b q n c E))
  case first =>
    go_region_held3 (fun w' => w'.cell? ⟨w.heap.size, 0, none⟩ = some (.slice a n cap) ∧ w'.cell? ⟨w.heap.size + 1, 0, none⟩ = some (.int .i64 f) ∧ w'.cell? ⟨w.heap.size + 1, 1, none⟩ = some (.int .i64 s) ∧ Below w1.heap.size w1 w') (first | (exact c3_keep HS1.out HBz.out) | (exact c3_keep HS1.out (c3_on (by assumption) (by assumption))) | (exact c3_keep HS1.out (Below.refl _ _).drew) | (exact c3_keep HS1.out (HBz.out.alloc HBz.out.size _)) | (exact c3_keep HS1.out (HBz.out.setCell (by first | exact Nat.le_refl _ | omega | (simp <;> omega)) _)) | (exact c3_alloc HS1.out (by assumption) _)) (first | (go_at_call 11; refine (toA a l n cap HL.out hn _ ?_).mono ?_; (exact c3_rd HS1.out (by assumption)); rintro e w2 ⟨gA, rfl, hgA, hrowA, hbA⟩; have ssA := hbA.size; (try simp at ssA); (first | (have z2 : Hid (w2.heap[w1.heap.size]? = some (.cells #[.slice none 0 0] 29)) := row_on (heap_new w1 _) (undrew hbA)) | skip)) | (go_at_call 12; refine (toR f s _).mono ?_; rintro e w3 ⟨rfl, hbR⟩; have ssR := hbR.size; (try simp at ssR); (first | (have z3 : Hid (w3.heap[w1.heap.size]? = some (.cells #[.slice none 0 0] 29)) := row_on z2.out hbR) | (have z3 : Hid (w3.heap[w2.heap.size]? = some (.cells #[.slice none 0 0] 29)) := row_on (heap_new w2 _) hbR) | skip)) | (go_at_call 19; refine (clearS ⟨gA, 0, none⟩ l n n f s HL.out hn _ ?_).mono ?_; (first | (exact (hrowA.on hbR).rd) | (exact ((hrowA.on hbR).alloc _).rd) | (exact ((hrowA.alloc _).on hbR).rd)); rintro e wF ⟨v0, rfl, hownF, hbF⟩; (rw [HE.out] at hownF); obtain ⟨q, c, hv⟩ := own_shape hownF; subst hv; have ssF := hbF.size; (try simp at ssF); have HBz : Hid (Below w1.heap.size w1 wF) := c3_on hbF (by assumption); (first | (have z4 := row_on z3.out hbF; have kz := row1_cells z4; have HZ4 : Hid (_ = _) := z4; clear z4) | (have z4 := row_on (heap_new w3 (.cells #[.slice none 0 0] 29)) hbF; have kz := row1_cells z4; have HZ4 : Hid (_ = _) := z4; clear z4) | skip)))
    all_goals (try go_wp2_with fail)
    all_goals go_meet
    all_goals first | exact ⟨_, _, _, rfl, boxO_alloc HBz.out hownF (by first | exact Nat.le_refl _ | omega | (simp <;> omega))⟩ | exact ⟨_, _, _, rfl, boxO_set HBz.out HZ4.out hownF (by first | exact Nat.le_refl _ | omega | (simp <;> omega)) (by first | exact Nat.le_refl _ | omega | (simp <;> omega)) (by first | exact Nat.le_refl _ | omega | (simp <;> omega))⟩
  case rest =>
  rename World => wA
  obtain ⟨b6, c, q, rfl, HB6⟩ := hcut
  have HSA : Hid (SL w wA a l (.slice a n cap) (.int .i64 f) (.int .i64 s)) := HS1.out.keep HB6.out.2.2.2.2
  have s1 := HS1.out.2.2.2.2.2
  have sA := HB6.out.2.2.2.2.size
  have lA := HB6.out.lt.1
  have HNA : Hid (∀ g, (Value.slice q n c).ownBlock = some g → g < wA.heap.size) := HB6.out.lt.2
  have lb6 := HB6.out.2.2.1
  clear HS1
  go_upto_region 6 with fail
  go_cut [7] (fun pz wc => ∃ (bx gx : Nat), pz = .pointer (some ⟨bx, 0, none⟩) ∧ Hid (SX w wc a l (.slice a n cap) (.int .i64 f) (.int .i64 s) (.slice (some ⟨gx, 0, none⟩) n n) bx gx) ∧ Hid (BoxO w1 wc b6 q n c E) ∧ wA.heap.size ≤ gx ∧ wA.heap.size ≤ bx)
  case first =>
    have k0 := HSA.out.1
    go_wp2_with fail
    refine (toA a l n cap HL.out hn _ (sl_rd HSA.out)).mono ?_
    rintro e w5 ⟨gx, rfl, hgx, hrowx, hb5⟩
    have s5 := hb5.size
    have HX5 : Hid (SX w (w5.alloc (.cells #[.slice (some ⟨gx, 0, none⟩) n n] 29)) a l (.slice a n cap) (.int .i64 f) (.int .i64 s) (.slice (some ⟨gx, 0, none⟩) n n) w5.heap.size gx) := SX.mk' (HSA.out.keep hb5) hrowx (by omega)
    have HO5 : Hid (BoxO w1 (w5.alloc (.cells #[.slice (some ⟨gx, 0, none⟩) n n] 29)) b6 q n c E) := (HB6.out.on hb5).on ((Below.refl _ _).alloc (Nat.le_refl _) _)
    clear k0 hrowx hb5
    go_wp2_with fail
    go_meet
    exact ⟨_, _, rfl, HX5, HO5, hgx, s5⟩
  case rest =>
  rename World => wB
  obtain ⟨bx, gx, rfl, HXB, HOB, hgx, hbx⟩ := hcut
  have lxB := HXB.out.row.lt
  have lbB := HXB.out.2.2.2.2.2.2.1
  have lOB := HOB.out.lt.1
  clear HB6 HSA
  go_upto_region 7 with fail
  go_cut [8] (fun pz wc => ∃ (b g : Nat), pz = .pointer (some ⟨b, 0, none⟩) ∧ Hid (BoxR wB wc b g n E))
  case first =>
    go_region_held3 (fun w' => w'.cell? ⟨bx, 0, none⟩ = some (.slice (some ⟨gx, 0, none⟩) n n) ∧ w'.cell? ⟨w.heap.size, 0, none⟩ = some (.slice a n cap) ∧ w'.cell? ⟨w.heap.size + 1, 0, none⟩ = some (.int .i64 f) ∧ w'.cell? ⟨w.heap.size + 1, 1, none⟩ = some (.int .i64 s) ∧ Below wB.heap.size wB w') (first | (exact c4_keep HXB.out HBz.out) | (exact c4_keep HXB.out (c4_on (by assumption) (by assumption))) | (exact c4_keep HXB.out (Below.refl _ _).drew) | (exact c4_keep HXB.out (HBz.out.alloc HBz.out.size _)) | (exact c4_keep HXB.out (HBz.out.setCell (by first | exact Nat.le_refl _ | omega | (simp <;> omega)) _)) | (exact c4_alloc HXB.out (by assumption) _)) (first | (go_at_call 12; refine (toR f s _).mono ?_; rintro e w3 ⟨rfl, hbR⟩; have ssR := hbR.size; (try simp at ssR); (first | (have z3 : Hid (w3.heap[wB.heap.size]? = some (.cells #[.slice none 0 0] 29)) := row_on (heap_new wB _) (undrew hbR)) | skip)) | (go_at_call 20; refine (clearI (some ⟨gx, 0, none⟩) l n n f s HL.out hn (Nat.le_refl _) _ ?_).mono ?_; (exact c4_row HXB.out (by assumption)); rintro e wF ⟨gF, rfl, hgF, hrowF, hbF⟩; (rw [HE.out] at hrowF); (try simp at hgF); have ssF := hbF.size; (try simp at ssF); have HBz : Hid (Below wB.heap.size wB wF) := c4_on hbF (by assumption); (first | (have z4 := row_on z3.out hbF; have kz := row1_cells z4; have HZ4 : Hid (_ = _) := z4; clear z4) | (have z4 := row_on (heap_new w3 (.cells #[.slice none 0 0] 29)) hbF; have kz := row1_cells z4; have HZ4 : Hid (_ = _) := z4; clear z4) | skip)))
    all_goals (try go_wp2_with fail)
    all_goals go_meet
    all_goals first | exact ⟨_, _, rfl, boxR_alloc HBz.out hrowF (by first | exact Nat.le_refl _ | omega | (simp <;> omega))⟩ | exact ⟨_, _, rfl, boxR_set HBz.out HZ4.out hrowF (by first | exact Nat.le_refl _ | omega | (simp <;> omega)) (by first | exact Nat.le_refl _ | omega | (simp <;> omega)) (by first | exact Nat.le_refl _ | omega | (simp <;> omega))⟩
  case rest =>
  rename World => wC
  obtain ⟨b8, gg, rfl, HB8⟩ := hcut
  have HXC : Hid (SX w wC a l (.slice a n cap) (.int .i64 f) (.int .i64 s) (.slice (some ⟨gx, 0, none⟩) n n) bx gx) := HXB.out.keep HB8.out.2.2.2.2.2
  have HOC : Hid (BoxO w1 wC b6 q n c E) := HOB.out.on HB8.out.2.2.2.2.2
  have l8 := HB8.out.2.2.1
  have lg := HB8.out.2.2.2.1
  have n8 := HB8.out.2.2.2.2.1
  clear HXB HOB
  have k8 := row1_cells HB8.out.1
  have k6 := row1_cells HOC.out.1
  go_wp2_with fail
  refine (eqA (some ⟨gg, 0, none⟩) q E n n c HEL.out hn _ HB8.out.2.1.rd (own_rd' HOC.out.2.1)).mono ?_
  rintro e w9 ⟨rfl, hb9⟩
  have HX9 : Hid (SX w w9 a l (.slice a n cap) (.int .i64 f) (.int .i64 s) (.slice (some ⟨gx, 0, none⟩) n n) bx gx) := HXC.out.keep hb9
  have HO9 : Hid (BoxO w1 w9 b6 q n c E) := HOC.out.on hb9
  have HR9 : Hid (BoxR wB w9 b8 gg n E) := HB8.out.on hb9
  clear hb9 k8 k6 HXC HOC HB8
  go_wp2_with fail
  go_region_held3 (fun w' => w'.cell? ⟨bx, 0, none⟩ = some (.slice (some ⟨gx, 0, none⟩) n n) ∧ w'.cell? ⟨w.heap.size, 0, none⟩ = some (.slice a n cap) ∧ w'.cell? ⟨w.heap.size + 1, 0, none⟩ = some (.int .i64 f) ∧ w'.cell? ⟨w.heap.size + 1, 1, none⟩ = some (.int .i64 s) ∧ Below w9.heap.size w9 w') (first | (exact c4_keep HX9.out HBz.out) | (exact c4_keep HX9.out (c4_on (by assumption) (by assumption))) | (exact c4_keep HX9.out (Below.refl _ _).drew)) (first | (go_at_call 11; refine (toA a l n cap HL.out hn _ ?_).mono ?_; (exact (sx_rd (HX9.out.keep (c4_bel (by assumption))))); rintro e w10 ⟨gt, rfl, hgt, hrowt, hb10⟩) | (go_at_call 15; refine (eqA (some ⟨gx, 0, none⟩) (some ⟨gt, 0, none⟩) l n n n HL.out hn _ ?_ ?_).mono ?_; (exact c4_row HX9.out (by assumption)); (exact hrowt.rd); rintro e w11 ⟨rfl, hb11⟩; have HBz : Hid (Below w9.heap.size w9 w11) := c4_on hb11 (by assumption)))
  have HX11 : Hid (SX w w11 a l (.slice a n cap) (.int .i64 f) (.int .i64 s) (.slice (some ⟨gx, 0, none⟩) n n) bx gx) := HX9.out.keep HBz.out
  have HO11 : Hid (BoxO w1 w11 b6 q n c E) := HO9.out.on HBz.out
  have HR11 : Hid (BoxR wB w11 b8 gg n E) := HR9.out.on HBz.out
  rename_i HH
  clear HH hb10 hb11 hrowt hgt HBz HX9 HO9 HR9
  have k1 := HX11.out.1
  go_wp2_with fail
  refine (markA gx l n 1 1 rfl HL.out hn (by omega) _ HX11.out.row).mono ?_
  rintro e w12 ⟨rfl, _, hg12⟩
  have HS12 : Hid (SL w w12 a l (.slice a n cap) (.int .i64 f) (.int .i64 s)) := HX11.out.sl.grown HR.out hg12 (by omega)
  have HO12 : Hid (BoxO w1 w12 b6 q n c E) := HO11.out.grown hg12 (by omega) (by omega) (fun g hg => by have := HNA.out g hg; omega)
  have HR12 : Hid (_ ∧ _) := HR11.out.grown hg12 (by omega) (by omega)
  clear hg12 k1 HX11 HO11 HR11
  have k8 := row1_cells HR12.out.1
  have k6 := row1_cells HO12.out.1
  go_wp2_with fail
  refine (eqA (some ⟨gg, 0, none⟩) q E n n c HEL.out hn _ HR12.out.2.rd (own_rd' HO12.out.2.1)).mono ?_
  rintro e w13 ⟨rfl, hb13⟩
  have HS13 : Hid (SL w w13 a l (.slice a n cap) (.int .i64 f) (.int .i64 s)) := HS12.out.keep hb13
  have HO13 : Hid (BoxO w1 w13 b6 q n c E) := HO12.out.on hb13
  have H813 : Hid (w13.heap[b8]? = some (.cells #[.slice (some ⟨gg, 0, none⟩) n n] 29)) := row_on HR12.out.1 hb13
  have HG13 : Hid (RowAt w13 gg E) := HR12.out.2.on hb13
  clear hb13 k8 k6 HS12 HO12 HR12
  have k8 := row1_cells H813.out
  go_wp2_with fail
  refine (markA gg E n 1 1 rfl HEL.out hn (by omega) _ HG13.out).mono ?_
  rintro e w14 ⟨rfl, hr14, hg14⟩
  have HS14 : Hid (SL w w14 a l (.slice a n cap) (.int .i64 f) (.int .i64 s)) := HS13.out.grown HR.out hg14 (by omega)
  have HO14 : Hid (BoxO w1 w14 b6 q n c E) := HO13.out.grown hg14 (by omega) (by omega) (fun g hg => by have := HNA.out g hg; omega)
  have H814 : Hid (w14.heap[b8]? = some (.cells #[.slice (some ⟨gg, 0, none⟩) n n] 29)) := grown_row hg14 H813.out (fun e => n8 (by cases e; rfl))
  have HG14 : Hid (RowAt w14 gg (marks 1 n)) := hr14
  clear hg14 hr14 k8 HS13 HO13 H813 HG13
  have k8 := row1_cells H814.out
  go_wp2_with fail
  refine (heldA gg n 1 1 rfl hn (by omega) _ HG14.out).mono ?_
  rintro e w15 ⟨rfl, hb15⟩
  have HS15 : Hid (SL w w15 a l (.slice a n cap) (.int .i64 f) (.int .i64 s)) := HS14.out.keep hb15
  have HO15 : Hid (BoxO w1 w15 b6 q n c E) := HO14.out.on hb15
  have H815 : Hid (w15.heap[b8]? = some (.cells #[.slice (some ⟨gg, 0, none⟩) n n] 29)) := row_on H814.out hb15
  have HG15 : Hid (RowAt w15 gg (marks 1 n)) := HG14.out.on hb15
  clear hb15 k8 HS14 HO14 H814 HG14
  go_upto_region 24 with fail
  go_cut [12] (fun pz wc => ∃ (b g : Nat), pz = .pointer (some ⟨b, 0, none⟩) ∧ Hid (BoxR w15 wc b g n E))
  case first =>
    go_region_held3 (fun w' => w'.cell? ⟨w.heap.size, 0, none⟩ = some (.slice a n cap) ∧ w'.cell? ⟨w.heap.size + 1, 0, none⟩ = some (.int .i64 f) ∧ w'.cell? ⟨w.heap.size + 1, 1, none⟩ = some (.int .i64 s) ∧ Below w15.heap.size w15 w') (first | (exact c3_keep HS15.out HBz.out) | (exact c3_keep HS15.out (c3_on (by assumption) (by assumption))) | (exact c3_keep HS15.out (Below.refl _ _).drew) | (exact c3_keep HS15.out (HBz.out.alloc HBz.out.size _)) | (exact c3_keep HS15.out (HBz.out.setCell (by first | exact Nat.le_refl _ | omega | (simp <;> omega)) _)) | (exact c3_alloc HS15.out (by assumption) _)) (first | (go_at_call 11; refine (toA a l n cap HL.out hn _ ?_).mono ?_; (exact c3_rd HS15.out (by assumption)); rintro e w2 ⟨gA, rfl, hgA, hrowA, hbA⟩; have ssA := hbA.size; (try simp at ssA); (first | (have z2 : Hid (w2.heap[w15.heap.size]? = some (.cells #[.slice none 0 0] 29)) := row_on (heap_new w15 _) (undrew hbA)) | skip)) | (go_at_call 12; refine (toR f s _).mono ?_; rintro e w3 ⟨rfl, hbR⟩; have ssR := hbR.size; (try simp at ssR); (first | (have z3 : Hid (w3.heap[w15.heap.size]? = some (.cells #[.slice none 0 0] 29)) := row_on z2.out hbR) | (have z3 : Hid (w3.heap[w2.heap.size]? = some (.cells #[.slice none 0 0] 29)) := row_on (heap_new w2 _) hbR) | skip)) | (go_at_call 20; refine (clearI (some ⟨gA, 0, none⟩) l n n f s HL.out hn (Nat.le_refl _) _ ?_).mono ?_; (first | (exact (hrowA.on hbR).rd) | (exact ((hrowA.on hbR).alloc _).rd) | (exact ((hrowA.alloc _).on hbR).rd)); rintro e wF ⟨gF, rfl, hgF, hrowF, hbF⟩; (rw [HE.out] at hrowF); (try simp at hgF); have ssF := hbF.size; (try simp at ssF); have HBz : Hid (Below w15.heap.size w15 wF) := c3_on hbF (by assumption); (first | (have z4 := row_on z3.out hbF; have kz := row1_cells z4; have HZ4 : Hid (_ = _) := z4; clear z4) | (have z4 := row_on (heap_new w3 (.cells #[.slice none 0 0] 29)) hbF; have kz := row1_cells z4; have HZ4 : Hid (_ = _) := z4; clear z4) | skip)))
    all_goals (try go_wp2_with fail)
    all_goals go_meet
    all_goals first | exact ⟨_, _, rfl, boxR_alloc HBz.out hrowF (by first | exact Nat.le_refl _ | omega | (simp <;> omega))⟩ | exact ⟨_, _, rfl, boxR_set HBz.out HZ4.out hrowF (by first | exact Nat.le_refl _ | omega | (simp <;> omega)) (by first | exact Nat.le_refl _ | omega | (simp <;> omega)) (by first | exact Nat.le_refl _ | omega | (simp <;> omega))⟩
  case rest =>
  rename World => wD
  obtain ⟨b12, gh, rfl, HB12⟩ := hcut
  have hbD := HB12.out.2.2.2.2.2
  have HOD : Hid (BoxO w1 wD b6 q n c E) := HO15.out.on hbD
  have H8D : Hid (wD.heap[b8]? = some (.cells #[.slice (some ⟨gg, 0, none⟩) n n] 29)) := row_on H815.out hbD
  have HGD : Hid (RowAt wD gg (marks 1 n)) := HG15.out.on hbD
  have HLD : Hid (Below w.heap.size w wD) := (HS15.out.keep hbD).2.2.2.1
  clear hbD HS15 HO15 H815 HG15
  have k12 := row1_cells HB12.out.1
  have k6 := row1_cells HOD.out.1
  go_wp2_with fail
  refine (eqA (some ⟨gh, 0, none⟩) q E n n c HEL.out hn _ HB12.out.2.1.rd (own_rd' HOD.out.2.1)).mono ?_
  rintro e w17 ⟨rfl, hb17⟩
  have H817 : Hid (w17.heap[b8]? = some (.cells #[.slice (some ⟨gg, 0, none⟩) n n] 29)) := row_on H8D.out hb17
  have HG17 : Hid (RowAt w17 gg (marks 1 n)) := HGD.out.on hb17
  have HL17 : Hid (Below w.heap.size w w17) := HLD.out.trans (hb17.mono HLD.out.size)
  clear hb17 k12 k6 HB12 HOD H8D HGD HLD
  have k8 := row1_cells H817.out
  go_wp2_with fail
  refine (heldA gg n 1 1 rfl hn (by omega) _ HG17.out).mono ?_
  rintro e w18 ⟨rfl, hb18⟩
  have HL18 : Hid (Below w.heap.size w w18) := HL17.out.trans (hb18.mono HL17.out.size)
  clear hb18 k8 H817 HG17 HL17
  go_wp2
  go_ret
  exact ⟨rfl, HL18.out⟩

theorem walk (a : Option Addr) (len cap : Nat) (z : List Int) (f s : Int) (w : World) (h : IsRow .i64 w a len cap z) (_ : (Lit.int .i64 f).wf = true) (_ : (Lit.int .i64 s).wf = true) :
    Calls Try.prog 4 #[.agg #[.slice a len cap], .agg #[.int .i64 f, .int .i64 s]] w fun e w' => e = .returned (.bool true) ∧ Below w.heap.size w w' := by
  obtain ⟨hr, hl, hc, hm⟩ := rd_of_row h
  by_cases hn : len ≤ 1048576
  · exact walk_in a (z.take len) len cap f s hl hn w hr
  · clear hr hl hc h
    have HW : Hid (Below w.heap.size w ((w.alloc (.cells #[.slice a len cap] 24)).alloc (.cells #[.int .i64 f, .int .i64 s] 26))) := (arena_start w _ _ _ _ _).2.2
    go_enter Try.func4, Try.ntmps4
    go_wp2_with fail
    refine (szA a len cap hm _).mono ?_
    rintro e w1 ⟨rfl, hb1⟩
    have HW1 : Hid (Below w.heap.size w w1) := HW.out.trans (hb1.mono HW.out.size)
    rw [if_neg hn]
    clear hb1 HW
    go_wp2
    go_ret
    exact ⟨rfl, HW1.out⟩

set_option maxRecDepth 100000 in
theorem lifted (os : Os) (started : os.Started) (H : Type) (enc : TypeId × Value → H) :
    ReturnsInHanded {} Try.checked os 4 .any (Rows.fnExactClearCellsSpec.pre6 enc Try.prog Try.f4 Rows.fnExactClearCellsRow.domain false) (Rows.fnExactClearCellsSpec.post enc Try.prog Try.f4 false true false false) := by
  refine returnsInHanded_of_change (C := Try.checked) own started (by kernel_rfl) Try.func4
    (ChangeSpec.witness6 (enc := enc) (C := Try.checked) false ⟨#[], #[.agg #[.slice none 0 0], .agg #[.int .i64 0, .int .i64 0]], []⟩ 8 (by kernel_rfl) (by kernel_rfl) (by kernel_rfl) (by kernel_rfl)) ?_
  intro W base args ds gs before hval0 hW hcnd _
  have hval : ∀ (j : Nat) t v, Try.f4.params[j]? = some t → args[j]? = some v → Value.okWide Try.prog W .any base t v := hval0
  have hW' := hW
  obtain ⟨p, q, hA0, hV, rfl, hfz, hnd⟩ := hW
  have hA : DataW.TrodAll enc Try.prog W 0 (fun _ => true) true Try.f4.params.toList args.toList ds p := hA0
  rw [Try.params4] at hA hval
  obtain ⟨v0, vs0, d0, ds0, p0, q0, hargs, rfl, rfl, h0, r0⟩ := trodAll_cons hA
  obtain ⟨v1, vs1, d1, ds1, p1, q1, rfl, rfl, rfl, h1, r1⟩ := trodAll_cons r0
  obtain ⟨rfl, rfl, rfl⟩ := trodAll_nil r1
  obtain rfl : args = #[v0, v1] := by cases args; simp_all
  obtain ⟨rfl, rfl⟩ := trodVars_none hV
  have k0 := h0
  have lt0 : ∀ x ∈ p0, x.block < W.heap.size := by obtain ⟨m, hm⟩ := k0; exact DataW.trod_lt m _ _ _ hm
  obtain ⟨a0, len0, cap0, z0, rfl, w0⟩ := open_arena (hval 0 24 v0 rfl rfl) h0
  have k1 := h1
  have lt1 : ∀ x ∈ p1, x.block < W.heap.size := by obtain ⟨m, hm⟩ := k1; exact DataW.trod_lt m _ _ _ hm
  obtain ⟨a1, b1, rfl, wa1, wb1⟩ := open_region (hval 1 26 v1 rfl rfl) h1
  clear hA0 hval0
  refine (walk a0 len0 cap0 z0 a1 b1 W w0 wa1 wb1).mono fun e W' ⟨he, bel⟩ => ?_
  subst he
  exact ⟨_, rfl, _, _, _, [], _, [], hW', trodAll_mk1 (shut_bool Try.underlying4 _), (trodAll_cons_mk (Below.trod laidOut (by kernel_rfl) (of_decide_eq_true (by kernel_rfl)) k0 bel lt0) (trodAll_cons_mk (Below.trod laidOut (by kernel_rfl) (of_decide_eq_true (by kernel_rfl)) k1 bel lt1) trodAll_mk0)), rfl, bel.frame _, fun h => by cases h⟩

theorem over : Rows.fnExactClearCellsRow.holds Try.pinned (OpenSpec.ofChange Rows.fnExactClearCellsSpec) :=
  OpenClaim.holds_of_wide 4 Try.f4 rfl rfl rfl rfl rfl rfl rfl ⟨rfl, rfl, rfl, rfl, rfl⟩ rfl rfl rfl rfl rfl (by kernel_rfl) Try.func4 (by kernel_rfl)
    (of_decide_eq_true (by kernel_rfl)) (by unfold Func.isWrapper; first | (rw [if_pos (by decide +kernel)]; kernel_rfl) | (rw [if_neg (by decide +kernel)]; exact ⟨rfl, rfl⟩))
    (fun os started H enc _ => lifted os started H enc)

end Go.Proofs.Ytelhnoepkfojkaa.fnExactClearCells
namespace Go.Proofs.Ytelhnoepkfojkaa
theorem fnExactClearCells_holds : Rows.FnExactClearCellsSaid :=
  fnExactClearCells.over
#print axioms fnExactClearCells_holds
end Go.Proofs.Ytelhnoepkfojkaa
