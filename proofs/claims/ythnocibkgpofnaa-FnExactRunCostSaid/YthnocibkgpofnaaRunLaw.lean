/-
  Proved: for every code, cells, region and number the call of FnExactRunCost returns true: RunCost of the program answers as that of the specification (arguments of more than 1048576 numbers in all the law itself lets by), and it writes into no argument. No conditions.
-/
import Derived.Test.YthnocibkgpofnaaRows
import Derived.Test.YthnocibkgpofnaaRunS7
import Derived.OpenShut
import Derived.ShutString
import Derived.ChangeOld
import Derived.Below
import Derived.OpenVars
import Derived.Deep.DeepHandedRow
namespace Go.Proofs.Ythnocibkgpofnaa.fnExactRunCost
open Go.ChangeShapes Go.WideShapes Go.ChangeAt Go.RowKit Go.PlainAid
open Go.ChangeMaps (open_string shut_string)
set_option linter.unusedVariables false

theorem own : ownKnob Try.prog.godebug = none := by kernel_rfl
theorem laidOut : laidOutB Try.prog = true := by kernel_rfl

theorem b3_on {B : World} {W W' : World} {p q r : Addr} {x y z : Value} (h : W.cell? p = some x ∧ W.cell? q = some y ∧ W.cell? r = some z ∧ Below B.heap.size B W) (hb : Below W.heap.size W W') : W'.cell? p = some x ∧ W'.cell? q = some y ∧ W'.cell? r = some z ∧ Below B.heap.size B W' :=
  ⟨(hb.cell (p := p) (World.block_lt_of_cell? W p h.1)).trans h.1, (hb.cell (p := q) (World.block_lt_of_cell? W q h.2.1)).trans h.2.1, (hb.cell (p := r) (World.block_lt_of_cell? W r h.2.2.1)).trans h.2.2.1, bel_on (Nat.le_refl _) h.2.2.2 hb⟩
theorem b2_on {B : World} {W W' : World} {p q : Addr} {x y : Value} (h : W.cell? p = some x ∧ W.cell? q = some y ∧ Below B.heap.size B W) (hb : Below W.heap.size W W') : W'.cell? p = some x ∧ W'.cell? q = some y ∧ Below B.heap.size B W' :=
  ⟨(hb.cell (p := p) (World.block_lt_of_cell? W p h.1)).trans h.1, (hb.cell (p := q) (World.block_lt_of_cell? W q h.2.1)).trans h.2.1, bel_on (Nat.le_refl _) h.2.2 hb⟩
theorem undr {W W' : World} {B : Nat} (h : Below B W.drew W') : Below B W W' := ⟨h.os, h.tape, h.output, h.size, h.block⟩

set_option maxRecDepth 100000 in
set_option maxHeartbeats 4000000 in
theorem walk_in (qc : Option Addr) (nc cc : Nat) (rl : List (Int × Int)) (qa : Option Addr) (m ca : Nat) (ce : List Int) (f s most : Int) (hlc : rl.length = nc) (hla : ce.length = m) (hmc : nc ≤ 9223372036854775807) (hma : m ≤ 9223372036854775807) (hn : nc + m ≤ 1048576) (w : World) (hrc : I.RdR w qc rl) (hra : Rd w qa ce) :
    Calls Try.prog 3 #[.slice qc nc cc, .agg #[.slice qa m ca], .agg #[.int .i64 f, .int .i64 s], .int .i64 most] w fun e w' => e = .returned (.bool true) ∧ Below w.heap.size w w' := by
  have HRC : Hid (I.RdR w qc rl) := hrc
  have HRA : Hid (Rd w qa ce) := hra
  have HLC : Hid (rl.length = nc) := hlc
  have HLA : Hid (ce.length = m) := hla
  have hnc : nc ≤ 1048576 := by omega
  have hm : m ≤ 1048576 := by omega
  have HLE1 : Hid (leftN 1048576 nc = 1048576 - nc) := leftN_yes (by omega)
  have HLE2 : Hid (leftN (1048576 - (nc : Int)) m = 1048576 - (nc : Int) - m) := leftN_yes (by omega)
  obtain ⟨c, hc⟩ := I.code_bool rl
  have HC : Hid (c = true ↔ I.CodeR rl) := hc
  obtain ⟨M, hM⟩ : ∃ M, min most 5000 = M := ⟨_, rfl⟩
  obtain ⟨Mn, hMn⟩ : ∃ Mn, M.toNat = Mn := ⟨_, rfl⟩
  obtain ⟨X, T, hX⟩ : ∃ X T, runR c rl f s M Mn 0 [] ce 0 = (X, T) := ⟨_, _, rfl⟩
  have HM : Hid (min most 5000 = M) := hM
  have HMn : Hid (M.toNat = Mn) := hMn
  have HX : Hid (runR c rl f s M Mn 0 [] ce 0 = (X, T)) := hX
  have HB0 : Hid (Below w.heap.size w ((w.alloc (.cells #[.slice qa m ca] 25)).alloc (.cells #[.int .i64 f, .int .i64 s] 27))) := al2_b w _ _
  have HA0 : Hid (((w.alloc (.cells #[.slice qa m ca] 25)).alloc (.cells #[.int .i64 f, .int .i64 s] 27)).heap[w.heap.size]? = some (.cells #[.slice qa m ca] 25)) := al2_1 w _ _
  have HG0 : Hid (((w.alloc (.cells #[.slice qa m ca] 25)).alloc (.cells #[.int .i64 f, .int .i64 s] 27)).heap[w.heap.size + 1]? = some (.cells #[.int .i64 f, .int .i64 s] 27)) := al2_2 w _ _
  clear hrc hra hlc hla hc hM hMn hX
  go_enter Try.func3, Try.ntmps3
  go_wp2_with fail
  refine (szInL qc nc cc 1048576 hmc (by omega) (by omega) _).mono ?_
  rintro e w1 ⟨rfl, hw1⟩
  have HB1 : Hid (Below w.heap.size w w1) := by rw [hw1]; exact HB0.out
  have HA1 : Hid (w1.heap[w.heap.size]? = some (.cells #[.slice qa m ca] 25)) := by rw [hw1]; exact HA0.out
  have HG1 : Hid (w1.heap[w.heap.size + 1]? = some (.cells #[.int .i64 f, .int .i64 s] 27)) := by rw [hw1]; exact HG0.out
  clear hw1 HB0 HA0 HG0
  rw [HLE1.out]
  have kA := row1_cells HA1.out
  go_wp2_with fail
  clear kA
  refine (szAL qa m ca (1048576 - (nc : Int)) hma (by omega) (by omega) _).mono ?_
  rintro e w2 ⟨rfl, hb2⟩
  rw [HLE2.out]
  have HB2 : Hid (Below w.heap.size w w2) := bel_on (Nat.le_refl _) HB1.out hb2
  have HA2 : Hid (w2.heap[w.heap.size]? = some (.cells #[.slice qa m ca] 25)) := row_on HA1.out hb2
  have HG2 : Hid (w2.heap[w.heap.size + 1]? = some (.cells #[.int .i64 f, .int .i64 s] 27)) := row_on HG1.out hb2
  clear hb2 HB1 HA1 HG1
  have HQ0 : Hid (w2.drew.cell? ⟨w.heap.size, 0, none⟩ = some (.slice qa m ca) ∧ w2.drew.cell? ⟨w.heap.size + 1, 0, none⟩ = some (.int .i64 f) ∧ w2.drew.cell? ⟨w.heap.size + 1, 1, none⟩ = some (.int .i64 s) ∧ Below w2.heap.size w2 w2.drew) := ⟨(row1_cells HA2.out).1, (row2_cells HG2.out).1, (row2_cells HG2.out).2.1, (Below.refl _ _).drew⟩
  have HRCd : Hid (I.RdR w2.drew qc rl) := HRC.out.keep HB2.out.drew (Nat.le_refl _)
  have HRAd : Hid (Rd w2.drew qa ce) := HRA.out.keep HB2.out.drew (Nat.le_refl _)
  go_wp2_with fail
  go_region_held3 (fun w' => w'.cell? ⟨w.heap.size, 0, none⟩ = some (.slice qa m ca) ∧ w'.cell? ⟨w.heap.size + 1, 0, none⟩ = some (.int .i64 f) ∧ w'.cell? ⟨w.heap.size + 1, 1, none⟩ = some (.int .i64 s) ∧ Below w2.heap.size w2 w') (first | (with_reducible exact HQ0.out) | (with_reducible exact HQa.out) | (with_reducible exact HQb.out) | (with_reducible exact HQc.out) | (with_reducible exact HQd.out)) (first | (go_at_call 10; refine (I.toRs qc rl nc cc HLC.out hnc _ HRCd.out).mono ?_; rintro e wa ⟨rfl, hrowa, hba⟩; have HQa : Hid (wa.cell? ⟨w.heap.size, 0, none⟩ = some (.slice qa m ca) ∧ wa.cell? ⟨w.heap.size + 1, 0, none⟩ = some (.int .i64 f) ∧ wa.cell? ⟨w.heap.size + 1, 1, none⟩ = some (.int .i64 s) ∧ Below w2.heap.size w2 wa) := b3_on HQ0.out hba) | (go_at_call 11; refine (toA qa ce m ca HLA.out hm _ (HRAd.out.keep hba (Nat.le_refl _))).mono ?_; rintro e wb ⟨gb, rfl, hgb, hrowb, hbb⟩; have HQb : Hid (wb.cell? ⟨w.heap.size, 0, none⟩ = some (.slice qa m ca) ∧ wb.cell? ⟨w.heap.size + 1, 0, none⟩ = some (.int .i64 f) ∧ wb.cell? ⟨w.heap.size + 1, 1, none⟩ = some (.int .i64 s) ∧ Below w2.heap.size w2 wb) := b3_on HQa.out hbb) | (go_at_call 12; refine (toR f s _).mono ?_; rintro e wc ⟨rfl, hbc⟩; have HQc : Hid (wc.cell? ⟨w.heap.size, 0, none⟩ = some (.slice qa m ca) ∧ wc.cell? ⟨w.heap.size + 1, 0, none⟩ = some (.int .i64 f) ∧ wc.cell? ⟨w.heap.size + 1, 1, none⟩ = some (.int .i64 s) ∧ Below w2.heap.size w2 wc) := b3_on HQb.out hbc) | (go_at_call 9; refine (costRunS _ rl nc nc ⟨gb, 0, none⟩ ce m m f s most M Mn c X T HLC.out hnc HLA.out hm HC.out HM.out HMn.out HX.out _ (((hrowa.on hbb).on hbc).rd) ((hrowb.on hbc).rd)).mono ?_; rintro e wd ⟨rfl, hbd⟩; have HQd : Hid (wd.cell? ⟨w.heap.size, 0, none⟩ = some (.slice qa m ca) ∧ wd.cell? ⟨w.heap.size + 1, 0, none⟩ = some (.int .i64 f) ∧ wd.cell? ⟨w.heap.size + 1, 1, none⟩ = some (.int .i64 s) ∧ Below w2.heap.size w2 wd) := b3_on HQc.out hbd))
  have HBd : Hid (Below w2.heap.size w2 wd) := HQd.out.2.2.2
  have HB3 : Hid (Below w.heap.size w wd) := bel_on (Nat.le_refl _) HB2.out HBd.out
  have HA3 : Hid (wd.heap[w.heap.size]? = some (.cells #[.slice qa m ca] 25)) := row_on HA2.out HBd.out
  have HG3 : Hid (wd.heap[w.heap.size + 1]? = some (.cells #[.int .i64 f, .int .i64 s] 27)) := row_on HG2.out HBd.out
  rename_i HH
  clear HH hrowa hba hgb hrowb hbb hbc hbd HQ0 HQa HQb HQc HQd HRCd HRAd HB2 HA2 HG2 HBd
  go_wp2_with fail
  refine (I.toRs qc rl nc cc HLC.out hnc _ (HRC.out.keep HB3.out (Nat.le_refl _))).mono ?_
  rintro e w6 ⟨rfl, hrow6, hb6⟩
  obtain ⟨k6, hk6⟩ : ∃ k, wd.heap.size = k := ⟨_, rfl⟩
  rw [hk6] at hrow6 ⊢
  clear hk6
  have HI6 : Hid (I.RowR w6 k6 rl) := hrow6
  have HB6 : Hid (Below w.heap.size w w6) := bel_on (Nat.le_refl _) HB3.out hb6
  have HA6 : Hid (w6.heap[w.heap.size]? = some (.cells #[.slice qa m ca] 25)) := row_on HA3.out hb6
  have HG6 : Hid (w6.heap[w.heap.size + 1]? = some (.cells #[.int .i64 f, .int .i64 s] 27)) := row_on HG3.out hb6
  clear hrow6 hb6 HB3 HA3 HG3
  have kA := row1_cells HA6.out
  go_wp2_with fail
  clear kA
  refine (toA qa ce m ca HLA.out hm _ (HRA.out.keep HB6.out (Nat.le_refl _))).mono ?_
  rintro e w7 ⟨g7, rfl, hg7, hrow7, hb7⟩
  have HI8 : Hid (I.RowR (w7.alloc (.cells #[.slice (some ⟨g7, 0, none⟩) m m] 34)) k6 rl) := (HI6.out.on hb7).on (al1_b w7 _)
  have HB8 : Hid (Below w.heap.size w (w7.alloc (.cells #[.slice (some ⟨g7, 0, none⟩) m m] 34))) := bel_on (Nat.le_refl _) (bel_on (Nat.le_refl _) HB6.out hb7) (al1_b w7 _)
  have HA8 : Hid ((w7.alloc (.cells #[.slice (some ⟨g7, 0, none⟩) m m] 34)).heap[w.heap.size]? = some (.cells #[.slice qa m ca] 25)) := row_on (row_on HA6.out hb7) (al1_b w7 _)
  have HG8 : Hid ((w7.alloc (.cells #[.slice (some ⟨g7, 0, none⟩) m m] 34)).heap[w.heap.size + 1]? = some (.cells #[.int .i64 f, .int .i64 s] 27)) := row_on (row_on HG6.out hb7) (al1_b w7 _)
  have HX8 : Hid ((w7.alloc (.cells #[.slice (some ⟨g7, 0, none⟩) m m] 34)).heap[w7.heap.size]? = some (.cells #[.slice (some ⟨g7, 0, none⟩) m m] 34)) := heap_new w7 _
  have HE8 : Hid (RowAt (w7.alloc (.cells #[.slice (some ⟨g7, 0, none⟩) m m] 34)) g7 ce) := RowAt.on hrow7 (al1_b w7 _)
  clear hg7 hrow7 hb7 HI6 HB6 HA6 HG6
  go_wp2_with fail
  generalize hW8 : w7.alloc (.cells #[.slice (some ⟨g7, 0, none⟩) m m] 34) = W8 at *
  clear hW8
  have HQ8 : Hid (W8.drew.cell? ⟨w7.heap.size, 0, none⟩ = some (.slice (some ⟨g7, 0, none⟩) m m) ∧ W8.drew.cell? ⟨w.heap.size + 1, 0, none⟩ = some (.int .i64 f) ∧ W8.drew.cell? ⟨w.heap.size + 1, 1, none⟩ = some (.int .i64 s) ∧ Below W8.heap.size W8 W8.drew) := ⟨(row1_cells HX8.out).1, (row2_cells HG8.out).1, (row2_cells HG8.out).2.1, (Below.refl _ _).drew⟩
  have HI8d : Hid (I.RowR W8.drew k6 rl) := HI8.out
  have HE8d : Hid (RowAt W8.drew g7 ce) := HE8.out
  go_region_held3 (fun w' => w'.cell? ⟨w7.heap.size, 0, none⟩ = some (.slice (some ⟨g7, 0, none⟩) m m) ∧ w'.cell? ⟨w.heap.size + 1, 0, none⟩ = some (.int .i64 f) ∧ w'.cell? ⟨w.heap.size + 1, 1, none⟩ = some (.int .i64 s) ∧ Below W8.heap.size W8 w') (first | (with_reducible exact HQ8.out) | (with_reducible exact HQe.out) | (with_reducible exact HQF.out)) (first | (go_at_call 12; refine (toR f s _).mono ?_; rintro e we ⟨rfl, hbe⟩; have HQe : Hid (we.cell? ⟨w7.heap.size, 0, none⟩ = some (.slice (some ⟨g7, 0, none⟩) m m) ∧ we.cell? ⟨w.heap.size + 1, 0, none⟩ = some (.int .i64 f) ∧ we.cell? ⟨w.heap.size + 1, 1, none⟩ = some (.int .i64 s) ∧ Below W8.heap.size W8 we) := b3_on HQ8.out hbe) | (go_at_call 13; refine (costRunI (some ⟨k6, 0, none⟩) rl nc nc (some ⟨g7, 0, none⟩) ce m m f s most M Mn c X T HLC.out hnc HLA.out hm HC.out HM.out HMn.out HX.out _ ((HI8d.out.on hbe).rd) ((HE8d.out.on hbe).rd)).mono ?_; rintro e wF ⟨rfl, hbF⟩; have HQF : Hid (wF.cell? ⟨w7.heap.size, 0, none⟩ = some (.slice (some ⟨g7, 0, none⟩) m m) ∧ wF.cell? ⟨w.heap.size + 1, 0, none⟩ = some (.int .i64 f) ∧ wF.cell? ⟨w.heap.size + 1, 1, none⟩ = some (.int .i64 s) ∧ Below W8.heap.size W8 wF) := b3_on HQe.out hbF))
  have HBF : Hid (Below W8.heap.size W8 wF) := HQF.out.2.2.2
  have HB9 : Hid (Below w.heap.size w wF) := bel_on (Nat.le_refl _) HB8.out HBF.out
  have HA9 : Hid (wF.heap[w.heap.size]? = some (.cells #[.slice qa m ca] 25)) := row_on HA8.out HBF.out
  have HX9 : Hid (wF.heap[w7.heap.size]? = some (.cells #[.slice (some ⟨g7, 0, none⟩) m m] 34)) := row_on HX8.out HBF.out
  have HI9 : Hid (I.RowR wF k6 rl) := HI8.out.on HBF.out
  have HE9 : Hid (RowAt wF g7 ce) := RowAt.on HE8.out HBF.out
  rename_i HH
  clear HH hbe hbF HQ8 HQe HQF HI8d HE8d HB8 HA8 HG8 HX8 HI8 HE8 HBF
  go_wp2_with fail
  refine (I.toRs qc rl nc cc HLC.out hnc _ (HRC.out.keep HB9.out (Nat.le_refl _))).mono ?_
  rintro e wG ⟨rfl, hrowG, hbG⟩
  obtain ⟨kG, hkG⟩ : ∃ k, wF.heap.size = k := ⟨_, rfl⟩
  rw [hkG] at hrowG ⊢
  clear hkG
  have HIG : Hid (I.RowR wG kG rl) := hrowG
  have HIX : Hid (I.RowR wG k6 rl) := HI9.out.on hbG
  have HBG : Hid (Below w.heap.size w wG) := bel_on (Nat.le_refl _) HB9.out hbG
  have HAG : Hid (wG.heap[w.heap.size]? = some (.cells #[.slice qa m ca] 25)) := row_on HA9.out hbG
  have HXG : Hid (wG.heap[w7.heap.size]? = some (.cells #[.slice (some ⟨g7, 0, none⟩) m m] 34)) := row_on HX9.out hbG
  have HEG : Hid (RowAt wG g7 ce) := RowAt.on HE9.out hbG
  clear hrowG hbG HB9 HA9 HX9 HI9 HE9
  go_wp2_with fail
  refine (I.eqRs k6 kG rl nc nc nc HLC.out hnc _ HIX.out HIG.out).mono ?_
  rintro e wH ⟨rfl, hbH⟩
  have HBH : Hid (Below w.heap.size w wH) := bel_on (Nat.le_refl _) HBG.out hbH
  have HAH : Hid (wH.heap[w.heap.size]? = some (.cells #[.slice qa m ca] 25)) := row_on HAG.out hbH
  have HXH : Hid (wH.heap[w7.heap.size]? = some (.cells #[.slice (some ⟨g7, 0, none⟩) m m] 34)) := row_on HXG.out hbH
  have HEH : Hid (RowAt wH g7 ce) := RowAt.on HEG.out hbH
  clear hbH HBG HAG HXG HEG HIG HIX
  have HQH : Hid (wH.drew.cell? ⟨w7.heap.size, 0, none⟩ = some (.slice (some ⟨g7, 0, none⟩) m m) ∧ wH.drew.cell? ⟨w.heap.size, 0, none⟩ = some (.slice qa m ca) ∧ Below wH.heap.size wH wH.drew) := ⟨(row1_cells HXH.out).1, (row1_cells HAH.out).1, (Below.refl _ _).drew⟩
  have HRAH : Hid (Rd wH.drew qa ce) := HRA.out.keep HBH.out.drew (Nat.le_refl _)
  have HEHd : Hid (RowAt wH.drew g7 ce) := HEH.out
  go_wp2_with fail
  go_region_held3 (fun w' => w'.cell? ⟨w7.heap.size, 0, none⟩ = some (.slice (some ⟨g7, 0, none⟩) m m) ∧ w'.cell? ⟨w.heap.size, 0, none⟩ = some (.slice qa m ca) ∧ Below wH.heap.size wH w') (first | (with_reducible exact HQH.out) | (with_reducible exact HQi.out) | (with_reducible exact HQj.out)) (first | (go_at_call 11; refine (toA qa ce m ca HLA.out hm _ HRAH.out).mono ?_; rintro e wi ⟨gi, rfl, hgi, hrowi, hbi⟩; have HQi : Hid (wi.cell? ⟨w7.heap.size, 0, none⟩ = some (.slice (some ⟨g7, 0, none⟩) m m) ∧ wi.cell? ⟨w.heap.size, 0, none⟩ = some (.slice qa m ca) ∧ Below wH.heap.size wH wi) := b2_on HQH.out hbi) | (go_at_call 15; refine (eqA (some ⟨g7, 0, none⟩) (some ⟨gi, 0, none⟩) ce m m m HLA.out hm _ ((HEHd.out.on hbi).rd) hrowi.rd).mono ?_; rintro e wj ⟨rfl, hbj⟩; have HQj : Hid (wj.cell? ⟨w7.heap.size, 0, none⟩ = some (.slice (some ⟨g7, 0, none⟩) m m) ∧ wj.cell? ⟨w.heap.size, 0, none⟩ = some (.slice qa m ca) ∧ Below wH.heap.size wH wj) := b2_on HQi.out hbj))
  have HBj : Hid (Below w.heap.size w wj) := bel_on (Nat.le_refl _) HBH.out HQj.out.2.2
  rename_i HH
  clear HH hgi hrowi hbi hbj HQH HQi HQj HRAH HEHd HBH HAH HXH HEH
  go_wp2
  go_ret
  exact ⟨rfl, HBj.out⟩

theorem walk (qc : Option Addr) (nc cc : Nat) (rl : List (Int × Int)) (qa : Option Addr) (m ca : Nat) (z : List Int) (f s most : Int) (w : World) (hC : I.IsRegs w qc nc cc rl) (hA : IsRow .i64 w qa m ca z) (_ : (Lit.int .i64 f).wf = true) (_ : (Lit.int .i64 s).wf = true) (_ : (Lit.int .i64 most).wf = true) :
    Calls Try.prog 3 #[.slice qc nc cc, .agg #[.slice qa m ca], .agg #[.int .i64 f, .int .i64 s], .int .i64 most] w fun e w' => e = .returned (.bool true) ∧ Below w.heap.size w w' := by
  obtain ⟨hlc, hcc, hmc, hrc⟩ := hC
  obtain ⟨hra, hla, hca, hma⟩ := rd_of_row hA
  by_cases hn : nc + m ≤ 1048576
  · exact walk_in qc nc cc rl qa m ca (z.take m) f s most hlc hla hmc hma hn w hrc hra
  · clear hrc hra hlc hla hca hcc hA
    have HB0 : Hid (Below w.heap.size w ((w.alloc (.cells #[.slice qa m ca] 25)).alloc (.cells #[.int .i64 f, .int .i64 s] 27))) := al2_b w _ _
    have HA0 : Hid (((w.alloc (.cells #[.slice qa m ca] 25)).alloc (.cells #[.int .i64 f, .int .i64 s] 27)).heap[w.heap.size]? = some (.cells #[.slice qa m ca] 25)) := al2_1 w _ _
    by_cases h1 : nc ≤ 1048576
    · have HLE1 : Hid (leftN 1048576 nc = 1048576 - nc) := leftN_yes (by omega)
      have HLE2 : Hid (leftN (1048576 - (nc : Int)) m = -1) := leftN_no (by omega)
      go_enter Try.func3, Try.ntmps3
      go_wp2_with fail
      refine (szInL qc nc cc 1048576 hmc (by omega) (by omega) _).mono ?_
      rintro e w1 ⟨rfl, hw1⟩
      have HB1 : Hid (Below w.heap.size w w1) := by rw [hw1]; exact HB0.out
      have HA1 : Hid (w1.heap[w.heap.size]? = some (.cells #[.slice qa m ca] 25)) := by rw [hw1]; exact HA0.out
      clear hw1 HB0 HA0
      rw [HLE1.out]
      have kA := row1_cells HA1.out
      go_wp2_with fail
      clear kA
      refine (szAL qa m ca (1048576 - (nc : Int)) hma (by omega) (by omega) _).mono ?_
      rintro e w2 ⟨rfl, hb2⟩
      rw [HLE2.out]
      have HB2 : Hid (Below w.heap.size w w2) := bel_on (Nat.le_refl _) HB1.out hb2
      clear hb2 HB1 HA1
      go_wp2
      go_ret
      exact ⟨rfl, HB2.out⟩
    · have HLE1 : Hid (leftN 1048576 nc = -1) := leftN_no (by omega)
      go_enter Try.func3, Try.ntmps3
      go_wp2_with fail
      refine (szInL qc nc cc 1048576 hmc (by omega) (by omega) _).mono ?_
      rintro e w1 ⟨rfl, hw1⟩
      have HB1 : Hid (Below w.heap.size w w1) := by rw [hw1]; exact HB0.out
      clear hw1 HB0 HA0
      rw [HLE1.out]
      go_wp2
      go_ret
      exact ⟨rfl, HB1.out⟩

set_option maxRecDepth 100000 in
theorem lifted (os : Os) (started : os.Started) (H : Type) (enc : TypeId × Value → H) :
    ReturnsInHanded {} Try.checked os 3 .any (Rows.fnExactRunCostSpec.pre6 enc Try.prog Try.f3 Rows.fnExactRunCostRow.domain false) (Rows.fnExactRunCostSpec.post enc Try.prog Try.f3 false true false false) := by
  refine returnsInHanded_of_change (C := Try.checked) own started (by kernel_rfl) Try.func3
    (ChangeSpec.witness6 (enc := enc) (C := Try.checked) false ⟨#[], #[.slice none 0 0, .agg #[.slice none 0 0], .agg #[.int .i64 0, .int .i64 0], .int .i64 0], []⟩ 8 (by kernel_rfl) (by kernel_rfl) (by kernel_rfl) (by kernel_rfl)) ?_
  intro W base args ds gs before hval0 hW hcnd _
  have hval : ∀ (j : Nat) t v, Try.f3.params[j]? = some t → args[j]? = some v → Value.okWide Try.prog W .any base t v := hval0
  have hW' := hW
  obtain ⟨p, q, hA0, hV, rfl, hfz, hnd⟩ := hW
  have hA : DataW.TrodAll enc Try.prog W 0 (fun _ => true) true Try.f3.params.toList args.toList ds p := hA0
  rw [Try.params3] at hA hval
  obtain ⟨v0, vs0, d0, ds0, p0, q0, hargs, rfl, rfl, h0, r0⟩ := trodAll_cons hA
  obtain ⟨v1, vs1, d1, ds1, p1, q1, rfl, rfl, rfl, h1, r1⟩ := trodAll_cons r0
  obtain ⟨v2, vs2, d2, ds2, p2, q2, rfl, rfl, rfl, h2, r2⟩ := trodAll_cons r1
  obtain ⟨v3, vs3, d3, ds3, p3, q3, rfl, rfl, rfl, h3, r3⟩ := trodAll_cons r2
  obtain ⟨rfl, rfl, rfl⟩ := trodAll_nil r3
  obtain rfl : args = #[v0, v1, v2, v3] := by cases args; simp_all
  obtain ⟨rfl, rfl⟩ := trodVars_none hV
  have k0 := h0
  have lt0 : ∀ x ∈ p0, x.block < W.heap.size := by obtain ⟨m, hm⟩ := k0; exact DataW.trod_lt m _ _ _ hm
  obtain ⟨a0, len0, cap0, z0, rfl, w0⟩ := I.open_regions (hval 0 22 v0 rfl rfl) h0
  have k1 := h1
  have lt1 : ∀ x ∈ p1, x.block < W.heap.size := by obtain ⟨m, hm⟩ := k1; exact DataW.trod_lt m _ _ _ hm
  obtain ⟨a1, len1, cap1, z1, rfl, w1⟩ := open_arena (hval 1 25 v1 rfl rfl) h1
  have k2 := h2
  have lt2 : ∀ x ∈ p2, x.block < W.heap.size := by obtain ⟨m, hm⟩ := k2; exact DataW.trod_lt m _ _ _ hm
  obtain ⟨a2, b2, rfl, wa2, wb2⟩ := open_region (hval 2 27 v2 rfl rfl) h2
  obtain ⟨a3, rfl, rfl, rfl, w3⟩ := open_int Try.underlying3 (hval 3 3 v3 rfl rfl) h3
  clear hA0 hval0
  refine (walk a0 len0 cap0 z0 a1 len1 cap1 z1 a2 b2 a3 W w0 w1 wa2 wb2 w3).mono fun e W' ⟨he, bel⟩ => ?_
  subst he
  exact ⟨_, rfl, _, _, _, [], _, [], hW', trodAll_mk1 (shut_bool Try.underlying4 _), (trodAll_cons_mk (Below.trod laidOut (by kernel_rfl) (of_decide_eq_true (by kernel_rfl)) k0 bel lt0) (trodAll_cons_mk (Below.trod laidOut (by kernel_rfl) (of_decide_eq_true (by kernel_rfl)) k1 bel lt1) (trodAll_cons_mk (Below.trod laidOut (by kernel_rfl) (of_decide_eq_true (by kernel_rfl)) k2 bel lt2) (trodAll_cons_mk (shut_int Try.underlying3 w3) trodAll_mk0)))), rfl, bel.frame _, fun h => by cases h⟩

theorem over : Rows.fnExactRunCostRow.holds Try.pinned (OpenSpec.ofChange Rows.fnExactRunCostSpec) :=
  OpenClaim.holds_of_wide 3 Try.f3 rfl rfl rfl rfl rfl rfl rfl ⟨rfl, rfl, rfl, rfl, rfl⟩ rfl rfl rfl rfl rfl (by kernel_rfl) Try.func3 (by kernel_rfl)
    (of_decide_eq_true (by kernel_rfl)) (by unfold Func.isWrapper; first | (rw [if_pos (by decide +kernel)]; kernel_rfl) | (rw [if_neg (by decide +kernel)]; exact ⟨rfl, rfl⟩))
    (fun os started H enc _ => lifted os started H enc)

end Go.Proofs.Ythnocibkgpofnaa.fnExactRunCost
namespace Go.Proofs.Ythnocibkgpofnaa
theorem fnExactRunCost_holds : Rows.FnExactRunCostSaid :=
  fnExactRunCost.over
#print axioms fnExactRunCost_holds
end Go.Proofs.Ythnocibkgpofnaa
