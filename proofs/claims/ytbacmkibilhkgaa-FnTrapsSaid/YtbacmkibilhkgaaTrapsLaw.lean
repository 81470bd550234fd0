/-
  Proved: for every text of bytes the call of FnTraps returns true: too few numbers, too many, no such instruction and no instruction are traps of their own (texts of more than 1048576 bytes the law itself lets by). No conditions.
-/
import Derived.Test.YtbacmkibilhkgaaRows
import Derived.Test.YtbacmkibilhkgaaOuts
import Derived.OpenShut
import Derived.ShutString
import Derived.ChangeOld
import Derived.Below
import Derived.OpenVars
import Derived.Deep.DeepHandedRow
namespace Go.Proofs.Ytbacmkibilhkgaa.fnTraps
open Go.ChangeShapes Go.WideShapes Go.ChangeAt Go.RowKit Go.PlainAid
open Go.ChangeMaps (open_string shut_string)
set_option linter.unusedVariables false

theorem own : ownKnob Try.prog.godebug = none := by kernel_rfl
theorem laidOut : laidOutB Try.prog = true := by kernel_rfl

def z8 : List Int := List.replicate 8 0
theorem z8_ok : CpuR 0 z8 := ⟨by decide, ⟨by decide, by decide⟩, fun i h => by
  have e : z8[i] = 0 := List.eq_of_mem_replicate (show z8[i] ∈ List.replicate 8 0 from List.getElem_mem h)
  rw [e]; exact ⟨by decide, by decide⟩⟩
set_option maxRecDepth 100000 in
set_option maxHeartbeats 3000000 in
theorem traps_in (a0 : Option Addr) (len0 cap0 : Nat) (hb : len0 ≤ 1048576) (w : World) (hcode : D.CodeOk w w.heap.size a0 len0) :
    Calls Try.prog 9 #[.slice a0 len0 cap0] w fun e w' => e = .returned (.bool true) ∧ Below w.heap.size w w' := by
  go_enter Try.func9, Try.ntmps9
  go_wp2_with fail
  refine (D.big5 a0 len0 cap0 (by omega) _).mono ?_
  rintro e w0 ⟨rfl, rfl⟩
  rw [decide_eq_false (by omega)]
  go_wp2_with fail
  refine (D.places7 w0.heap.size a0 len0 cap0 _ hcode (Nat.le_refl _)).mono ?_
  rintro e w1 ⟨gp, cpp, p0, p1, p2, p3, rfl, h0, h1, h2, h3, hgp, c0, c1, c2, c3, hlp, hb1⟩
  have FW_1 : Hid (Below w0.heap.size w0 (w0)) := Below.refl _ _
  have N_2 : Hid ((w0).heap.size ≤ (w1).heap.size) := (hb1).size
  have FW_3 : Hid (Below w0.heap.size w0 (w1)) := bel_on (Nat.le_refl _) FW_1.out (hb1)
  clear FW_1 hb1 hgp
  obtain ⟨T, hT⟩ : ∃ T, p0 % 60 = T := ⟨_, rfl⟩
  obtain ⟨V, hV⟩ : ∃ V, p1 % 200 = V := ⟨_, rfl⟩
  have hT2 : p0.tmod 60 = T := by rw [Int.tmod_eq_emod_of_nonneg h0.1]; exact hT
  have hV2 : p1.tmod 200 = V := by rw [Int.tmod_eq_emod_of_nonneg h1.1]; exact hV
  have hT0 : 0 ≤ T ∧ T < 60 := by omega
  have hV0 : 0 ≤ V ∧ V < 200 := by omega
  obtain ⟨U, hU⟩ : ∃ U, 18 + V = U := ⟨_, rfl⟩
  have hU2 : IntKind.i64.wrap (18 + V) = U := by rw [hU]; exact wrap_in (by omega) (by omega)
  have hU0 : 18 ≤ U ∧ U ≤ 217 := by omega
  have HU : Hid (18 + V = U) := hU
  clear h3 c3 hU
  have HP : Hid (w1.cell? ⟨gp, 0, none⟩ = some (.int .i64 p0) ∧ w1.cell? ⟨gp, 1, none⟩ = some (.int .i64 p1) ∧ w1.cell? ⟨gp, 2, none⟩ = some (.int .i64 p2)) := ⟨c0, c1, c2⟩
  clear c0 c1 c2
  have FP_4 : Hid (Below w1.heap.size w1 (w1)) := Below.refl _ _
  go_wp2_with fail
  refine (newI _).mono ?_
  rintro e w2 ⟨g2, rfl, hg2, hrow2, hb2⟩
  have N_5 : Hid ((w1).heap.size ≤ (w2).heap.size) := (hb2).size
  have FW_6 : Hid (Below w0.heap.size w0 (w2)) := bel_on (Nat.le_refl _) FW_3.out (hb2)
  have FP_7 : Hid (Below w1.heap.size w1 (w2)) := bel_on (Nat.le_refl _) FP_4.out (hb2)
  clear FW_3 FP_4
  have N_8 : Hid ((w1).heap.size ≤ g2 ∧ g2 < w2.heap.size) := ⟨hg2, hrow2.lt⟩
  have FZ_9 : Hid (RowAt (w2) g2 z64) := hrow2
  clear hg2 hrow2 hb2
  have N_10 : Hid ((w2).heap.size ≤ ((((w2.alloc (.cells #[.slice (some ⟨g2, 0, none⟩) 64 64] 38)).alloc (.cells #[.int .i64 0, .int .i64 4] 46)).alloc (.cells #[.int .i64 4, .int .i64 0] 65))).heap.size) := (al3_b w2 (.cells #[.slice (some ⟨g2, 0, none⟩) 64 64] 38) (.cells #[.int .i64 0, .int .i64 4] 46) (.cells #[.int .i64 4, .int .i64 0] 65)).size
  have FW_11 : Hid (Below w0.heap.size w0 ((((w2.alloc (.cells #[.slice (some ⟨g2, 0, none⟩) 64 64] 38)).alloc (.cells #[.int .i64 0, .int .i64 4] 46)).alloc (.cells #[.int .i64 4, .int .i64 0] 65)))) := bel_on (Nat.le_refl _) FW_6.out (al3_b w2 (.cells #[.slice (some ⟨g2, 0, none⟩) 64 64] 38) (.cells #[.int .i64 0, .int .i64 4] 46) (.cells #[.int .i64 4, .int .i64 0] 65))
  have FP_12 : Hid (Below w1.heap.size w1 ((((w2.alloc (.cells #[.slice (some ⟨g2, 0, none⟩) 64 64] 38)).alloc (.cells #[.int .i64 0, .int .i64 4] 46)).alloc (.cells #[.int .i64 4, .int .i64 0] 65)))) := bel_on (Nat.le_refl _) FP_7.out (al3_b w2 (.cells #[.slice (some ⟨g2, 0, none⟩) 64 64] 38) (.cells #[.int .i64 0, .int .i64 4] 46) (.cells #[.int .i64 4, .int .i64 0] 65))
  have FZ_13 : Hid (RowAt ((((w2.alloc (.cells #[.slice (some ⟨g2, 0, none⟩) 64 64] 38)).alloc (.cells #[.int .i64 0, .int .i64 4] 46)).alloc (.cells #[.int .i64 4, .int .i64 0] 65))) g2 z64) := RowAt.on FZ_9.out (al3_b w2 (.cells #[.slice (some ⟨g2, 0, none⟩) 64 64] 38) (.cells #[.int .i64 0, .int .i64 4] 46) (.cells #[.int .i64 4, .int .i64 0] 65))
  clear FW_6 FP_7 FZ_9
  have N_14 : Hid ((((w2.alloc (.cells #[.slice (some ⟨g2, 0, none⟩) 64 64] 38)).alloc (.cells #[.int .i64 0, .int .i64 4] 46)).alloc (.cells #[.int .i64 4, .int .i64 0] 65)).heap.size = w2.heap.size + 3) := al3_s w2 (.cells #[.slice (some ⟨g2, 0, none⟩) 64 64] 38) (.cells #[.int .i64 0, .int .i64 4] 46) (.cells #[.int .i64 4, .int .i64 0] 65)
  have FA_15 : Hid (((((w2.alloc (.cells #[.slice (some ⟨g2, 0, none⟩) 64 64] 38)).alloc (.cells #[.int .i64 0, .int .i64 4] 46)).alloc (.cells #[.int .i64 4, .int .i64 0] 65))).heap[w2.heap.size]? = some (.cells #[.slice (some ⟨g2, 0, none⟩) 64 64] 38)) := al3_1 w2 (.cells #[.slice (some ⟨g2, 0, none⟩) 64 64] 38) (.cells #[.int .i64 0, .int .i64 4] 46) (.cells #[.int .i64 4, .int .i64 0] 65)
  have FG_16 : Hid (((((w2.alloc (.cells #[.slice (some ⟨g2, 0, none⟩) 64 64] 38)).alloc (.cells #[.int .i64 0, .int .i64 4] 46)).alloc (.cells #[.int .i64 4, .int .i64 0] 65))).heap[w2.heap.size + 1]? = some (.cells #[.int .i64 0, .int .i64 4] 46)) := al3_2 w2 (.cells #[.slice (some ⟨g2, 0, none⟩) 64 64] 38) (.cells #[.int .i64 0, .int .i64 4] 46) (.cells #[.int .i64 4, .int .i64 0] 65)
  have FI_17 : Hid (((((w2.alloc (.cells #[.slice (some ⟨g2, 0, none⟩) 64 64] 38)).alloc (.cells #[.int .i64 0, .int .i64 4] 46)).alloc (.cells #[.int .i64 4, .int .i64 0] 65))).heap[w2.heap.size + 1 + 1]? = some (.cells #[.int .i64 4, .int .i64 0] 65)) := al3_3 w2 (.cells #[.slice (some ⟨g2, 0, none⟩) 64 64] 38) (.cells #[.int .i64 0, .int .i64 4] 46) (.cells #[.int .i64 4, .int .i64 0] 65)
  have kA := row1_cells FA_15.out
  have kG := row2_cells FG_16.out
  go_wp2_with fail
  clear kA kG
  refine (stepI none (0) [] 0 0 (some ⟨w2.heap.size + 1 + 1, 0, none⟩) [(4, 0)] 1 1 (some ⟨g2, 0, none⟩) z64 64 64 (0) (4) (0) true ⟨0, [], z64, 0, 0, 0, 5⟩ 0 rfl (by decide) rfl (by decide) (by rfl) (by decide) ⟨fun _ => ⟨cpuR_nil 0 (by decide) (by decide), codeR_one 4 0 ⟨by decide, by decide⟩ ⟨by decide, by decide⟩, by decide⟩, fun _ => rfl⟩ (by rfl) rfl _ (Rd.nil _ _) (I.RowR.rd FI_17.out) (RowAt.rd FZ_13.out)).mono ?_
  rintro e w3 ⟨gs3, cs3, ga3, ca3, rfl, hs3, ha3, hne3, hb3⟩
  have N_18 : Hid (((((w2.alloc (.cells #[.slice (some ⟨g2, 0, none⟩) 64 64] 38)).alloc (.cells #[.int .i64 0, .int .i64 4] 46)).alloc (.cells #[.int .i64 4, .int .i64 0] 65))).heap.size ≤ (w3).heap.size) := (hb3).size
  have FW_19 : Hid (Below w0.heap.size w0 (w3)) := bel_on (Nat.le_refl _) FW_11.out (hb3)
  have FP_20 : Hid (Below w1.heap.size w1 (w3)) := bel_on (Nat.le_refl _) FP_12.out (hb3)
  have FZ_21 : Hid (RowAt (w3) g2 z64) := RowAt.on FZ_13.out (hb3)
  have FA_22 : Hid ((w3).heap[w2.heap.size]? = some (.cells #[.slice (some ⟨g2, 0, none⟩) 64 64] 38)) := row_on FA_15.out (hb3)
  have FG_23 : Hid ((w3).heap[w2.heap.size + 1]? = some (.cells #[.int .i64 0, .int .i64 4] 46)) := row_on FG_16.out (hb3)
  have FI_24 : Hid ((w3).heap[w2.heap.size + 1 + 1]? = some (.cells #[.int .i64 4, .int .i64 0] 65)) := row_on FI_17.out (hb3)
  clear FW_11 FP_12 FZ_13 FA_15 FG_16 FI_17
  have N_25 : Hid (((((w2.alloc (.cells #[.slice (some ⟨g2, 0, none⟩) 64 64] 38)).alloc (.cells #[.int .i64 0, .int .i64 4] 46)).alloc (.cells #[.int .i64 4, .int .i64 0] 65))).heap.size ≤ gs3 ∧ gs3 < w3.heap.size ∧ ((((w2.alloc (.cells #[.slice (some ⟨g2, 0, none⟩) 64 64] 38)).alloc (.cells #[.int .i64 0, .int .i64 4] 46)).alloc (.cells #[.int .i64 4, .int .i64 0] 65))).heap.size ≤ ga3 ∧ ga3 < w3.heap.size) := ⟨hs3.ge, hs3.lt, ha3.ge, ha3.lt⟩
  clear FI_24
  clear hs3 ha3 hne3 hb3
  have N_26 : Hid ((w3).heap.size ≤ ((((w3.alloc (.cells #[.int .i64 0, .slice (some ⟨gs3, 0, none⟩) 0 cs3] 27)).alloc (.cells #[.slice (some ⟨ga3, 0, none⟩) 64 ca3] 38)).alloc (.cells #[.int .i64 0, .int .i64 0, .int .i64 0, .int .i64 5] 40))).heap.size) := (al3_b w3 (.cells #[.int .i64 0, .slice (some ⟨gs3, 0, none⟩) 0 cs3] 27) (.cells #[.slice (some ⟨ga3, 0, none⟩) 64 ca3] 38) (.cells #[.int .i64 0, .int .i64 0, .int .i64 0, .int .i64 5] 40)).size
  have FW_27 : Hid (Below w0.heap.size w0 ((((w3.alloc (.cells #[.int .i64 0, .slice (some ⟨gs3, 0, none⟩) 0 cs3] 27)).alloc (.cells #[.slice (some ⟨ga3, 0, none⟩) 64 ca3] 38)).alloc (.cells #[.int .i64 0, .int .i64 0, .int .i64 0, .int .i64 5] 40)))) := bel_on (Nat.le_refl _) FW_19.out (al3_b w3 (.cells #[.int .i64 0, .slice (some ⟨gs3, 0, none⟩) 0 cs3] 27) (.cells #[.slice (some ⟨ga3, 0, none⟩) 64 ca3] 38) (.cells #[.int .i64 0, .int .i64 0, .int .i64 0, .int .i64 5] 40))
  have FP_28 : Hid (Below w1.heap.size w1 ((((w3.alloc (.cells #[.int .i64 0, .slice (some ⟨gs3, 0, none⟩) 0 cs3] 27)).alloc (.cells #[.slice (some ⟨ga3, 0, none⟩) 64 ca3] 38)).alloc (.cells #[.int .i64 0, .int .i64 0, .int .i64 0, .int .i64 5] 40)))) := bel_on (Nat.le_refl _) FP_20.out (al3_b w3 (.cells #[.int .i64 0, .slice (some ⟨gs3, 0, none⟩) 0 cs3] 27) (.cells #[.slice (some ⟨ga3, 0, none⟩) 64 ca3] 38) (.cells #[.int .i64 0, .int .i64 0, .int .i64 0, .int .i64 5] 40))
  have FZ_29 : Hid (RowAt ((((w3.alloc (.cells #[.int .i64 0, .slice (some ⟨gs3, 0, none⟩) 0 cs3] 27)).alloc (.cells #[.slice (some ⟨ga3, 0, none⟩) 64 ca3] 38)).alloc (.cells #[.int .i64 0, .int .i64 0, .int .i64 0, .int .i64 5] 40))) g2 z64) := RowAt.on FZ_21.out (al3_b w3 (.cells #[.int .i64 0, .slice (some ⟨gs3, 0, none⟩) 0 cs3] 27) (.cells #[.slice (some ⟨ga3, 0, none⟩) 64 ca3] 38) (.cells #[.int .i64 0, .int .i64 0, .int .i64 0, .int .i64 5] 40))
  have FA_30 : Hid (((((w3.alloc (.cells #[.int .i64 0, .slice (some ⟨gs3, 0, none⟩) 0 cs3] 27)).alloc (.cells #[.slice (some ⟨ga3, 0, none⟩) 64 ca3] 38)).alloc (.cells #[.int .i64 0, .int .i64 0, .int .i64 0, .int .i64 5] 40))).heap[w2.heap.size]? = some (.cells #[.slice (some ⟨g2, 0, none⟩) 64 64] 38)) := row_on FA_22.out (al3_b w3 (.cells #[.int .i64 0, .slice (some ⟨gs3, 0, none⟩) 0 cs3] 27) (.cells #[.slice (some ⟨ga3, 0, none⟩) 64 ca3] 38) (.cells #[.int .i64 0, .int .i64 0, .int .i64 0, .int .i64 5] 40))
  have FG_31 : Hid (((((w3.alloc (.cells #[.int .i64 0, .slice (some ⟨gs3, 0, none⟩) 0 cs3] 27)).alloc (.cells #[.slice (some ⟨ga3, 0, none⟩) 64 ca3] 38)).alloc (.cells #[.int .i64 0, .int .i64 0, .int .i64 0, .int .i64 5] 40))).heap[w2.heap.size + 1]? = some (.cells #[.int .i64 0, .int .i64 4] 46)) := row_on FG_23.out (al3_b w3 (.cells #[.int .i64 0, .slice (some ⟨gs3, 0, none⟩) 0 cs3] 27) (.cells #[.slice (some ⟨ga3, 0, none⟩) 64 ca3] 38) (.cells #[.int .i64 0, .int .i64 0, .int .i64 0, .int .i64 5] 40))
  clear FW_19 FP_20 FZ_21 FA_22 FG_23
  have N_32 : Hid ((((w3.alloc (.cells #[.int .i64 0, .slice (some ⟨gs3, 0, none⟩) 0 cs3] 27)).alloc (.cells #[.slice (some ⟨ga3, 0, none⟩) 64 ca3] 38)).alloc (.cells #[.int .i64 0, .int .i64 0, .int .i64 0, .int .i64 5] 40)).heap.size = w3.heap.size + 3) := al3_s w3 (.cells #[.int .i64 0, .slice (some ⟨gs3, 0, none⟩) 0 cs3] 27) (.cells #[.slice (some ⟨ga3, 0, none⟩) 64 ca3] 38) (.cells #[.int .i64 0, .int .i64 0, .int .i64 0, .int .i64 5] 40)
  have FX_33 : Hid (((((w3.alloc (.cells #[.int .i64 0, .slice (some ⟨gs3, 0, none⟩) 0 cs3] 27)).alloc (.cells #[.slice (some ⟨ga3, 0, none⟩) 64 ca3] 38)).alloc (.cells #[.int .i64 0, .int .i64 0, .int .i64 0, .int .i64 5] 40))).heap[w3.heap.size]? = some (.cells #[.int .i64 0, .slice (some ⟨gs3, 0, none⟩) 0 cs3] 27)) := al3_1 w3 (.cells #[.int .i64 0, .slice (some ⟨gs3, 0, none⟩) 0 cs3] 27) (.cells #[.slice (some ⟨ga3, 0, none⟩) 64 ca3] 38) (.cells #[.int .i64 0, .int .i64 0, .int .i64 0, .int .i64 5] 40)
  have FXa_34 : Hid (((((w3.alloc (.cells #[.int .i64 0, .slice (some ⟨gs3, 0, none⟩) 0 cs3] 27)).alloc (.cells #[.slice (some ⟨ga3, 0, none⟩) 64 ca3] 38)).alloc (.cells #[.int .i64 0, .int .i64 0, .int .i64 0, .int .i64 5] 40))).heap[w3.heap.size + 1]? = some (.cells #[.slice (some ⟨ga3, 0, none⟩) 64 ca3] 38)) := al3_2 w3 (.cells #[.int .i64 0, .slice (some ⟨gs3, 0, none⟩) 0 cs3] 27) (.cells #[.slice (some ⟨ga3, 0, none⟩) 64 ca3] 38) (.cells #[.int .i64 0, .int .i64 0, .int .i64 0, .int .i64 5] 40)
  have FE_35 : Hid (((((w3.alloc (.cells #[.int .i64 0, .slice (some ⟨gs3, 0, none⟩) 0 cs3] 27)).alloc (.cells #[.slice (some ⟨ga3, 0, none⟩) 64 ca3] 38)).alloc (.cells #[.int .i64 0, .int .i64 0, .int .i64 0, .int .i64 5] 40))).heap[w3.heap.size + 1 + 1]? = some (.cells #[.int .i64 0, .int .i64 0, .int .i64 0, .int .i64 5] 40)) := al3_3 w3 (.cells #[.int .i64 0, .slice (some ⟨gs3, 0, none⟩) 0 cs3] 27) (.cells #[.slice (some ⟨ga3, 0, none⟩) 64 ca3] 38) (.cells #[.int .i64 0, .int .i64 0, .int .i64 0, .int .i64 5] 40)
  clear FXa_34
  clear FX_33
  go_wp2_with fail
  generalize hW3 : (((w3.alloc (.cells #[.int .i64 0, .slice (some ⟨gs3, 0, none⟩) 0 cs3] 27)).alloc (.cells #[.slice (some ⟨ga3, 0, none⟩) 64 ca3] 38)).alloc (.cells #[.int .i64 0, .int .i64 0, .int .i64 0, .int .i64 5] 40)) = W3 at *
  clear hW3
  have Q30 : Hid (W3.cell? ⟨gp, 0, none⟩ = some (.int .i64 p0)) := cell_on HP.out.1 FP_28.out
  have Q31 : Hid (W3.cell? ⟨w2.heap.size, 0, none⟩ = some (.slice (some ⟨g2, 0, none⟩) 64 64)) := (row1_cells FA_30.out).1
  have Q32 : Hid (W3.cell? ⟨w2.heap.size + 1, 0, none⟩ = some (.int .i64 0)) := (row2_cells FG_31.out).1
  have Q33 : Hid (W3.cell? ⟨w2.heap.size + 1, 1, none⟩ = some (.int .i64 4)) := (row2_cells FG_31.out).2.1
  have HZ3 : Hid (Rd W3 (some ⟨g2, 0, none⟩) z64) := RowAt.rd FZ_29.out
  go_cut [9, 10, 11] (fun o1 o2 o3 wc => ∃ (b1 b2 b3 gs cs ga ca : Nat), o1 = .pointer (some ⟨b1, 0, none⟩) ∧ o2 = .pointer (some ⟨b2, 0, none⟩) ∧ o3 = .pointer (some ⟨b3, 0, none⟩) ∧ Hid (OutB W3 wc b1 b2 b3 gs cs ga ca 64 0 ⟨T, [], z64, 0, 0, 0, 6⟩))
  case first =>
    refine wp_region_held_drew (S := fun w' => Below W3.heap.size W3 w') (by kernel_rfl) (Below.refl _ _).drew (fun hHeld => ?_)
    refine wpAnyH_take (i := 0) (v := ?_) rfl (by kernel_rfl) (by kernel_rfl) (by kernel_rfl) (fun _ _ _ h => h) (Or.inl ⟨by rfl, ?_⟩) (by assumption) ?_
    rotate_left
    · intro w hSw; (try dsimp only at hSw); have q0_ := cell_on Q30.out hSw; have q1_ := cell_on Q31.out hSw; have q2_ := cell_on Q32.out hSw; have q3_ := cell_on Q33.out hSw; go_simp <;> with_reducible rfl
    simp only [Act.put, List.setIfInBounds_toArray, List.set_cons_zero, List.set_cons_succ, List.getElem_toArray, List.getElem_cons_zero]
    refine wpAnyH_take (i := 1) (v := ?_) rfl (by kernel_rfl) (by kernel_rfl) (by kernel_rfl) (fun _ _ _ h => h) (Or.inl ⟨by rfl, ?_⟩) (by assumption) ?_
    rotate_left
    · intro w hSw; (try dsimp only at hSw); have q0_ := cell_on Q30.out hSw; have q1_ := cell_on Q31.out hSw; have q2_ := cell_on Q32.out hSw; have q3_ := cell_on Q33.out hSw; go_simp <;> with_reducible rfl
    simp only [Act.put, List.setIfInBounds_toArray, List.set_cons_zero, List.set_cons_succ, List.getElem_toArray, List.getElem_cons_zero, List.getElem_cons_succ]
    refine wpAnyH_take (i := 2) (v := ?_) rfl (by kernel_rfl) (by kernel_rfl) (by kernel_rfl) (fun _ _ _ h => h) (Or.inl ⟨by rfl, ?_⟩) (by assumption) ?_
    rotate_left
    · intro w hSw; (try dsimp only at hSw); have q0_ := cell_on Q30.out hSw; have q1_ := cell_on Q31.out hSw; have q2_ := cell_on Q32.out hSw; have q3_ := cell_on Q33.out hSw; go_simp <;> with_reducible rfl
    simp only [Act.put, List.setIfInBounds_toArray, List.set_cons_zero, List.set_cons_succ, List.getElem_toArray, List.getElem_cons_zero, List.getElem_cons_succ]
    refine wpAnyH_take (i := 3) (v := ?_) rfl (by kernel_rfl) (by kernel_rfl) (by kernel_rfl) (fun _ _ _ h => h) (Or.inl ⟨by rfl, ?_⟩) (by assumption) ?_
    rotate_left
    · intro w hSw; (try dsimp only at hSw); have q0_ := cell_on Q30.out hSw; have q1_ := cell_on Q31.out hSw; have q2_ := cell_on Q32.out hSw; have q3_ := cell_on Q33.out hSw; go_simp <;> with_reducible rfl
    simp only [Act.put, List.setIfInBounds_toArray, List.set_cons_zero, List.set_cons_succ, List.getElem_toArray, List.getElem_cons_zero, List.getElem_cons_succ]
    refine wpAnyH_take (i := 4) (v := ?_) rfl (by kernel_rfl) (by kernel_rfl) (by kernel_rfl) (fun _ _ _ h => h) (Or.inl ⟨by rfl, ?_⟩) (by assumption) ?_
    rotate_left
    · intro w hSw; (try dsimp only at hSw); have q0_ := cell_on Q30.out hSw; have q1_ := cell_on Q31.out hSw; have q2_ := cell_on Q32.out hSw; have q3_ := cell_on Q33.out hSw; go_simp <;> with_reducible rfl
    simp only [Act.put, List.setIfInBounds_toArray, List.set_cons_zero, List.set_cons_succ, List.getElem_toArray, List.getElem_cons_zero, List.getElem_cons_succ]
    refine wpAnyH_take (i := 6) (v := ?_) rfl (by kernel_rfl) (by kernel_rfl) (by kernel_rfl) (fun _ _ _ h => h) (Or.inl ⟨by rfl, ?_⟩) (by assumption) ?_
    rotate_left
    · intro w hSw; (try dsimp only at hSw); have q0_ := cell_on Q30.out hSw; have q1_ := cell_on Q31.out hSw; have q2_ := cell_on Q32.out hSw; have q3_ := cell_on Q33.out hSw; go_simp <;> with_reducible rfl
    simp only [Act.put, List.setIfInBounds_toArray, List.set_cons_zero, List.set_cons_succ, List.getElem_toArray, List.getElem_cons_zero, List.getElem_cons_succ]
    refine wpAnyH_take (i := 7) (v := ?_) rfl (by kernel_rfl) (by kernel_rfl) (by kernel_rfl) (fun _ _ _ h => h) (Or.inl ⟨by rfl, ?_⟩) (by assumption) ?_
    rotate_left
    · intro w hSw; (try dsimp only at hSw); have q0_ := cell_on Q30.out hSw; have q1_ := cell_on Q31.out hSw; have q2_ := cell_on Q32.out hSw; have q3_ := cell_on Q33.out hSw; go_simp <;> with_reducible rfl
    simp only [Act.put, List.setIfInBounds_toArray, List.set_cons_zero, List.set_cons_succ, List.getElem_toArray, List.getElem_cons_zero, List.getElem_cons_succ]
    refine wpAnyH_named (fun a0 ha0 => ?_)
    have HA0 : Hid (a0 = _) := ha0
    clear ha0
    refine main_go (L := (fun x y z => #[true, true, true, true, true, false, true, true, false, false, false, false, false, x, y, z, false, false, false])) (St := (fun x y z a w => ∃ (vx vy vz : Value), a = (((a0.put (some 9) vx).put (some 10) vy).put (some 11) vz) ∧ VB W3 x vx w zCpu ∧ VB W3 y vy w zAr ∧ VB W3 z vz w zEf)) (K := 9) ?h (by kernel_rfl) (by decide) (by assumption) ⟨a0.tmps.getD 9 undef, a0.tmps.getD 10 undef, a0.tmps.getD 11 undef, (by simp only [put_self]), VB.no _ _ _ _, VB.no _ _ _ _, VB.no _ _ _ _⟩
    case h =>
      refine stage3 (i1 := 13) (i2 := 14) (i3 := 15) (c := 5) (fun x y z => #[true, true, true, true, true, false, true, true, false, false, false, false, false, x, y, z, false, false, false]) (fun x y z => #[true, true, true, true, true, true, true, true, false, false, false, false, false, x, y, z, false, false, false]) (fun x y z a w => ∃ (vx vy vz : Value), a = (((a0.put (some 9) vx).put (some 10) vy).put (some 11) vz) ∧ VB W3 x vx w zCpu ∧ VB W3 y vy w zAr ∧ VB W3 z vz w zEf) (fun x y z a w => ∃ (vx vy vz : Value) (kq : Nat), a = ((((a0.put (some 44) (.slice (some ⟨kq, 0, none⟩) 0 0)).put (some 9) vx).put (some 10) vy).put (some 11) vz) ∧ VB W3 x vx w zCpu ∧ VB W3 y vy w zAr ∧ VB W3 z vz w zEf) 8 ?_ ?_ ?_ ?_ ?_ ?_ ?_ ?_ ?_ ?_ ?_
      · intro x y z i hi
        cases x <;> cases y <;> cases z
        · have e_ := mem_kernel (rs := [5, 13, 14, 15]) (by kernel_rfl) hi; (first | (simp at e_ ⊢; done) | (simp at e_ ⊢; omega))
        · have e_ := mem_kernel (rs := [5, 13, 14]) (by kernel_rfl) hi; (first | (simp at e_ ⊢; done) | (simp at e_ ⊢; omega))
        · have e_ := mem_kernel (rs := [5, 13, 15]) (by kernel_rfl) hi; (first | (simp at e_ ⊢; done) | (simp at e_ ⊢; omega))
        · have e_ := mem_kernel (rs := [5, 13]) (by kernel_rfl) hi; (first | (simp at e_ ⊢; done) | (simp at e_ ⊢; omega))
        · have e_ := mem_kernel (rs := [5, 14, 15]) (by kernel_rfl) hi; (first | (simp at e_ ⊢; done) | (simp at e_ ⊢; omega))
        · have e_ := mem_kernel (rs := [5, 14]) (by kernel_rfl) hi; (first | (simp at e_ ⊢; done) | (simp at e_ ⊢; omega))
        · have e_ := mem_kernel (rs := [5, 15]) (by kernel_rfl) hi; (first | (simp at e_ ⊢; done) | (simp at e_ ⊢; omega))
        · have e_ := mem_kernel (rs := [5]) (by kernel_rfl) hi; (first | (simp at e_ ⊢; done) | (simp at e_ ⊢; omega))
      · intro x y z
        cases x <;> cases y <;> cases z
        · exact ne_kernel (rs := [5, 13, 14, 15]) (by kernel_rfl) (by simp)
        · exact ne_kernel (rs := [5, 13, 14]) (by kernel_rfl) (by simp)
        · exact ne_kernel (rs := [5, 13, 15]) (by kernel_rfl) (by simp)
        · exact ne_kernel (rs := [5, 13]) (by kernel_rfl) (by simp)
        · exact ne_kernel (rs := [5, 14, 15]) (by kernel_rfl) (by simp)
        · exact ne_kernel (rs := [5, 14]) (by kernel_rfl) (by simp)
        · exact ne_kernel (rs := [5, 15]) (by kernel_rfl) (by simp)
        · exact ne_kernel (rs := [5]) (by kernel_rfl) (by simp)
      · intro x y; cases x <;> cases y <;> kernel_rfl
      · intro x y; cases x <;> cases y <;> kernel_rfl
      · intro x y; cases x <;> cases y <;> kernel_rfl
      · intro x y z; cases x <;> cases y <;> cases z <;> kernel_rfl
      · rintro y z a w hSw ⟨vx, vy, vz, rfl, bx, by_, bz⟩
        refine wpOp_step (i := 13) rfl (fun K hK => ?_)
        have HK : Shut _ := hK
        clear hK
        rw [HA0.out]
        simp only [Act.put, List.setIfInBounds_toArray, List.set_cons_zero, List.set_cons_succ]
        go_simp
        exact HK.out _ _ ⟨bel_on (Nat.le_refl _) hSw (al1_b w zCpu), _, vy, vz, (by rw [HA0.out]; simp only [Act.put, List.setIfInBounds_toArray, List.set_cons_zero, List.set_cons_succ]), VB.new hSw, by_.on (al1_b w zCpu), bz.on (al1_b w zCpu)⟩
      · rintro x z a w hSw ⟨vx, vy, vz, rfl, bx, by_, bz⟩
        refine wpOp_step (i := 14) rfl (fun K hK => ?_)
        have HK : Shut _ := hK
        clear hK
        rw [HA0.out]
        simp only [Act.put, List.setIfInBounds_toArray, List.set_cons_zero, List.set_cons_succ]
        go_simp
        exact HK.out _ _ ⟨bel_on (Nat.le_refl _) hSw (al1_b w zAr), vx, _, vz, (by rw [HA0.out]; simp only [Act.put, List.setIfInBounds_toArray, List.set_cons_zero, List.set_cons_succ]), bx.on (al1_b w zAr), VB.new hSw, bz.on (al1_b w zAr)⟩
      · rintro x y a w hSw ⟨vx, vy, vz, rfl, bx, by_, bz⟩
        refine wpOp_step (i := 15) rfl (fun K hK => ?_)
        have HK : Shut _ := hK
        clear hK
        rw [HA0.out]
        simp only [Act.put, List.setIfInBounds_toArray, List.set_cons_zero, List.set_cons_succ]
        go_simp
        exact HK.out _ _ ⟨bel_on (Nat.le_refl _) hSw (al1_b w zEf), vx, vy, _, (by rw [HA0.out]; simp only [Act.put, List.setIfInBounds_toArray, List.set_cons_zero, List.set_cons_succ]), bx.on (al1_b w zEf), by_.on (al1_b w zEf), VB.new hSw⟩
      · rintro x y z a w hSw ⟨vx, vy, vz, rfl, bx, by_, bz⟩
        refine wpOp_step (i := 5) rfl (fun K hK => ?_)
        have HK : Shut _ := hK
        clear hK
        rw [HA0.out]
        simp only [Act.put, List.setIfInBounds_toArray, List.set_cons_zero, List.set_cons_succ]
        go_simp
        exact HK.out _ _ ⟨bel_on (Nat.le_refl _) hSw (al1_b w _), vx, vy, vz, w.heap.size, (by rw [HA0.out]; simp only [Act.put, List.setIfInBounds_toArray, List.set_cons_zero, List.set_cons_succ]), bx.on (al1_b w _), by_.on (al1_b w _), bz.on (al1_b w _)⟩
      refine stage3 (i1 := 13) (i2 := 14) (i3 := 15) (c := 8) (fun x y z => #[true, true, true, true, true, true, true, true, false, false, false, false, false, x, y, z, false, false, false]) (fun x y z => #[true, true, true, true, true, true, true, true, true, false, false, false, false, x, y, z, false, false, false]) (fun x y z a w => ∃ (vx vy vz : Value) (kq : Nat), a = ((((a0.put (some 44) (.slice (some ⟨kq, 0, none⟩) 0 0)).put (some 9) vx).put (some 10) vy).put (some 11) vz) ∧ VB W3 x vx w zCpu ∧ VB W3 y vy w zAr ∧ VB W3 z vz w zEf) (fun x y z a w => ∃ (vx vy vz : Value) (kq : Nat) (gs : Nat) (cs : Nat) (ga : Nat) (ca : Nat), a = (((((a0.put (some 44) (.slice (some ⟨kq, 0, none⟩) 0 0)).put (some 47) (.tuple #[.agg #[.int .i64 (⟨T, [], z64, 0, 0, 0, 6⟩ : Res).pc, .slice (some ⟨gs, 0, none⟩) 0 cs], .agg #[.slice (some ⟨ga, 0, none⟩) 64 ca], .agg #[.int .i64 (⟨T, [], z64, 0, 0, 0, 6⟩ : Res).k, .int .i64 (⟨T, [], z64, 0, 0, 0, 6⟩ : Res).po, .int .i64 (⟨T, [], z64, 0, 0, 0, 6⟩ : Res).nu, .int .i64 (⟨T, [], z64, 0, 0, 0, 6⟩ : Res).tr]])).put (some 9) vx).put (some 10) vy).put (some 11) vz) ∧ Hid (OwnN w W3.heap.size gs 0 cs (⟨T, [], z64, 0, 0, 0, 6⟩ : Res).st) ∧ Hid (OwnN w W3.heap.size ga 64 ca (⟨T, [], z64, 0, 0, 0, 6⟩ : Res).ce) ∧ Hid (gs ≠ ga) ∧ VB W3 x vx w zCpu ∧ VB W3 y vy w zAr ∧ VB W3 z vz w zEf) 7 ?_ ?_ ?_ ?_ ?_ ?_ ?_ ?_ ?_ ?_ ?_
      · intro x y z i hi
        cases x <;> cases y <;> cases z
        · have e_ := mem_kernel (rs := [8, 13, 14, 15]) (by kernel_rfl) hi; (first | (simp at e_ ⊢; done) | (simp at e_ ⊢; omega))
        · have e_ := mem_kernel (rs := [8, 13, 14]) (by kernel_rfl) hi; (first | (simp at e_ ⊢; done) | (simp at e_ ⊢; omega))
        · have e_ := mem_kernel (rs := [8, 13, 15]) (by kernel_rfl) hi; (first | (simp at e_ ⊢; done) | (simp at e_ ⊢; omega))
        · have e_ := mem_kernel (rs := [8, 13]) (by kernel_rfl) hi; (first | (simp at e_ ⊢; done) | (simp at e_ ⊢; omega))
        · have e_ := mem_kernel (rs := [8, 14, 15]) (by kernel_rfl) hi; (first | (simp at e_ ⊢; done) | (simp at e_ ⊢; omega))
        · have e_ := mem_kernel (rs := [8, 14]) (by kernel_rfl) hi; (first | (simp at e_ ⊢; done) | (simp at e_ ⊢; omega))
        · have e_ := mem_kernel (rs := [8, 15]) (by kernel_rfl) hi; (first | (simp at e_ ⊢; done) | (simp at e_ ⊢; omega))
        · have e_ := mem_kernel (rs := [8]) (by kernel_rfl) hi; (first | (simp at e_ ⊢; done) | (simp at e_ ⊢; omega))
      · intro x y z
        cases x <;> cases y <;> cases z
        · exact ne_kernel (rs := [8, 13, 14, 15]) (by kernel_rfl) (by simp)
        · exact ne_kernel (rs := [8, 13, 14]) (by kernel_rfl) (by simp)
        · exact ne_kernel (rs := [8, 13, 15]) (by kernel_rfl) (by simp)
        · exact ne_kernel (rs := [8, 13]) (by kernel_rfl) (by simp)
        · exact ne_kernel (rs := [8, 14, 15]) (by kernel_rfl) (by simp)
        · exact ne_kernel (rs := [8, 14]) (by kernel_rfl) (by simp)
        · exact ne_kernel (rs := [8, 15]) (by kernel_rfl) (by simp)
        · exact ne_kernel (rs := [8]) (by kernel_rfl) (by simp)
      · intro x y; cases x <;> cases y <;> kernel_rfl
      · intro x y; cases x <;> cases y <;> kernel_rfl
      · intro x y; cases x <;> cases y <;> kernel_rfl
      · intro x y z; cases x <;> cases y <;> cases z <;> kernel_rfl
      · rintro y z a w hSw ⟨vx, vy, vz, kq, rfl, bx, by_, bz⟩
        refine wpOp_step (i := 13) rfl (fun K hK => ?_)
        have HK : Shut _ := hK
        clear hK
        rw [HA0.out]
        simp only [Act.put, List.setIfInBounds_toArray, List.set_cons_zero, List.set_cons_succ]
        go_simp
        exact HK.out _ _ ⟨bel_on (Nat.le_refl _) hSw (al1_b w zCpu), _, vy, vz, kq, (by rw [HA0.out]; simp only [Act.put, List.setIfInBounds_toArray, List.set_cons_zero, List.set_cons_succ]), VB.new hSw, by_.on (al1_b w zCpu), bz.on (al1_b w zCpu)⟩
      · rintro x z a w hSw ⟨vx, vy, vz, kq, rfl, bx, by_, bz⟩
        refine wpOp_step (i := 14) rfl (fun K hK => ?_)
        have HK : Shut _ := hK
        clear hK
        rw [HA0.out]
        simp only [Act.put, List.setIfInBounds_toArray, List.set_cons_zero, List.set_cons_succ]
        go_simp
        exact HK.out _ _ ⟨bel_on (Nat.le_refl _) hSw (al1_b w zAr), vx, _, vz, kq, (by rw [HA0.out]; simp only [Act.put, List.setIfInBounds_toArray, List.set_cons_zero, List.set_cons_succ]), bx.on (al1_b w zAr), VB.new hSw, bz.on (al1_b w zAr)⟩
      · rintro x y a w hSw ⟨vx, vy, vz, kq, rfl, bx, by_, bz⟩
        refine wpOp_step (i := 15) rfl (fun K hK => ?_)
        have HK : Shut _ := hK
        clear hK
        rw [HA0.out]
        simp only [Act.put, List.setIfInBounds_toArray, List.set_cons_zero, List.set_cons_succ]
        go_simp
        exact HK.out _ _ ⟨bel_on (Nat.le_refl _) hSw (al1_b w zEf), vx, vy, _, kq, (by rw [HA0.out]; simp only [Act.put, List.setIfInBounds_toArray, List.set_cons_zero, List.set_cons_succ]), bx.on (al1_b w zEf), by_.on (al1_b w zEf), VB.new hSw⟩
      · rintro x y z a w hSw ⟨vx, vy, vz, kq, rfl, bx, by_, bz⟩
        refine wpOp_step (i := 8) rfl (fun K hK => ?_)
        have HK : Shut _ := hK
        clear hK
        rw [HA0.out]
        simp only [Act.put, List.setIfInBounds_toArray, List.set_cons_zero, List.set_cons_succ]
        go_simp
        go_at_call 22
        refine (stepI none T [] 0 0 (some ⟨kq, 0, none⟩) [] 0 0 (some ⟨g2, 0, none⟩) z64 64 64 0 4 0 false ⟨T, [], z64, 0, 0, 0, 6⟩ 0 rfl (by decide) rfl (by decide) rfl (by decide) ⟨fun h => (by cases h), fun h => absurd h.2.2 (by have := hT0.1; omega)⟩ rfl rfl _ (Rd.nil _ _) (fun h => by simp at h) (HZ3.out.on hSw)).mono ?_
        rintro e w9 ⟨gs, cs, ga, ca, rfl, hs9, ha9, hne9, hb9⟩
        go_wp2_with fail
        exact HK.out _ _ ⟨bel_on (Nat.le_refl _) hSw (hb9), vx, vy, vz, kq, gs, cs, ga, ca, (by rw [HA0.out]; simp only [Act.put, List.setIfInBounds_toArray, List.set_cons_zero, List.set_cons_succ]), hs9.mono hSw.size, ha9.mono hSw.size, hne9, bx.on (hb9), by_.on (hb9), bz.on (hb9)⟩
      refine stageT (i := 9) rfl (by kernel_rfl) (fun x y z => #[true, true, true, true, true, true, true, true, true, false, false, false, false, x, y, z, false, false, false]) (fun x y z => #[true, true, true, true, true, true, true, true, true, true, false, false, false, x, y, z, false, false, false]) (fun x y z a w => ∃ (vx vy vz : Value) (kq : Nat) (gs : Nat) (cs : Nat) (ga : Nat) (ca : Nat), a = (((((a0.put (some 44) (.slice (some ⟨kq, 0, none⟩) 0 0)).put (some 47) (.tuple #[.agg #[.int .i64 (⟨T, [], z64, 0, 0, 0, 6⟩ : Res).pc, .slice (some ⟨gs, 0, none⟩) 0 cs], .agg #[.slice (some ⟨ga, 0, none⟩) 64 ca], .agg #[.int .i64 (⟨T, [], z64, 0, 0, 0, 6⟩ : Res).k, .int .i64 (⟨T, [], z64, 0, 0, 0, 6⟩ : Res).po, .int .i64 (⟨T, [], z64, 0, 0, 0, 6⟩ : Res).nu, .int .i64 (⟨T, [], z64, 0, 0, 0, 6⟩ : Res).tr]])).put (some 9) vx).put (some 10) vy).put (some 11) vz) ∧ Hid (OwnN w W3.heap.size gs 0 cs (⟨T, [], z64, 0, 0, 0, 6⟩ : Res).st) ∧ Hid (OwnN w W3.heap.size ga 64 ca (⟨T, [], z64, 0, 0, 0, 6⟩ : Res).ce) ∧ Hid (gs ≠ ga) ∧ VB W3 x vx w zCpu ∧ VB W3 y vy w zAr ∧ VB W3 z vz w zEf) (fun x y z a w => ∃ (vx vy vz : Value) (kq : Nat) (gs : Nat) (cs : Nat) (ga : Nat) (ca : Nat), a = ((((((a0.put (some 44) (.slice (some ⟨kq, 0, none⟩) 0 0)).put (some 47) (.tuple #[.agg #[.int .i64 (⟨T, [], z64, 0, 0, 0, 6⟩ : Res).pc, .slice (some ⟨gs, 0, none⟩) 0 cs], .agg #[.slice (some ⟨ga, 0, none⟩) 64 ca], .agg #[.int .i64 (⟨T, [], z64, 0, 0, 0, 6⟩ : Res).k, .int .i64 (⟨T, [], z64, 0, 0, 0, 6⟩ : Res).po, .int .i64 (⟨T, [], z64, 0, 0, 0, 6⟩ : Res).nu, .int .i64 (⟨T, [], z64, 0, 0, 0, 6⟩ : Res).tr]])).put (some 38) (.tuple #[.agg #[.int .i64 (⟨T, [], z64, 0, 0, 0, 6⟩ : Res).pc, .slice (some ⟨gs, 0, none⟩) 0 cs], .agg #[.slice (some ⟨ga, 0, none⟩) 64 ca], .agg #[.int .i64 (⟨T, [], z64, 0, 0, 0, 6⟩ : Res).k, .int .i64 (⟨T, [], z64, 0, 0, 0, 6⟩ : Res).po, .int .i64 (⟨T, [], z64, 0, 0, 0, 6⟩ : Res).nu, .int .i64 (⟨T, [], z64, 0, 0, 0, 6⟩ : Res).tr]])).put (some 9) vx).put (some 10) vy).put (some 11) vz) ∧ Hid (OwnN w W3.heap.size gs 0 cs (⟨T, [], z64, 0, 0, 0, 6⟩ : Res).st) ∧ Hid (OwnN w W3.heap.size ga 64 ca (⟨T, [], z64, 0, 0, 0, 6⟩ : Res).ce) ∧ Hid (gs ≠ ga) ∧ VB W3 x vx w zCpu ∧ VB W3 y vy w zAr ∧ VB W3 z vz w zEf) 6 ?_ ?_ ?_ ?_ ?_ ?_
      · intro x y z; cases x <;> cases y <;> cases z <;> kernel_rfl
      · intro x y z; cases x <;> cases y <;> cases z <;> kernel_rfl
      · intro x y z; cases x <;> cases y <;> cases z <;> kernel_rfl
      · exact fun _ _ _ _ h => h
      · rintro x y z a w hSw ⟨vx, vy, vz, kq, gs, cs, ga, ca, rfl, Hs, Ha, Hn, bx, by_, bz⟩
        refine ⟨.tuple #[.agg #[.int .i64 (⟨T, [], z64, 0, 0, 0, 6⟩ : Res).pc, .slice (some ⟨gs, 0, none⟩) 0 cs], .agg #[.slice (some ⟨ga, 0, none⟩) 64 ca], .agg #[.int .i64 (⟨T, [], z64, 0, 0, 0, 6⟩ : Res).k, .int .i64 (⟨T, [], z64, 0, 0, 0, 6⟩ : Res).po, .int .i64 (⟨T, [], z64, 0, 0, 0, 6⟩ : Res).nu, .int .i64 (⟨T, [], z64, 0, 0, 0, 6⟩ : Res).tr]], Or.inl ⟨by rw [HA0.out]; rfl, ?_⟩, vx, vy, vz, kq, gs, cs, ga, ca, (by rw [HA0.out]; simp only [Act.put, List.setIfInBounds_toArray, List.set_cons_zero, List.set_cons_succ, List.getElem_toArray, List.getElem_cons_zero, List.getElem_cons_succ]), Hs, Ha, Hn, bx, by_, bz⟩
        rw [HA0.out]
        simp only [Act.put, List.setIfInBounds_toArray, List.set_cons_zero, List.set_cons_succ]
        intro w hSw; go_simp <;> with_reducible rfl
      refine stageT (i := 10) rfl (by kernel_rfl) (fun x y z => #[true, true, true, true, true, true, true, true, true, true, false, false, false, x, y, z, false, false, false]) (fun x y z => #[true, true, true, true, true, true, true, true, true, true, true, false, false, x, y, z, false, false, false]) (fun x y z a w => ∃ (vx vy vz : Value) (kq : Nat) (gs : Nat) (cs : Nat) (ga : Nat) (ca : Nat), a = ((((((a0.put (some 44) (.slice (some ⟨kq, 0, none⟩) 0 0)).put (some 47) (.tuple #[.agg #[.int .i64 (⟨T, [], z64, 0, 0, 0, 6⟩ : Res).pc, .slice (some ⟨gs, 0, none⟩) 0 cs], .agg #[.slice (some ⟨ga, 0, none⟩) 64 ca], .agg #[.int .i64 (⟨T, [], z64, 0, 0, 0, 6⟩ : Res).k, .int .i64 (⟨T, [], z64, 0, 0, 0, 6⟩ : Res).po, .int .i64 (⟨T, [], z64, 0, 0, 0, 6⟩ : Res).nu, .int .i64 (⟨T, [], z64, 0, 0, 0, 6⟩ : Res).tr]])).put (some 38) (.tuple #[.agg #[.int .i64 (⟨T, [], z64, 0, 0, 0, 6⟩ : Res).pc, .slice (some ⟨gs, 0, none⟩) 0 cs], .agg #[.slice (some ⟨ga, 0, none⟩) 64 ca], .agg #[.int .i64 (⟨T, [], z64, 0, 0, 0, 6⟩ : Res).k, .int .i64 (⟨T, [], z64, 0, 0, 0, 6⟩ : Res).po, .int .i64 (⟨T, [], z64, 0, 0, 0, 6⟩ : Res).nu, .int .i64 (⟨T, [], z64, 0, 0, 0, 6⟩ : Res).tr]])).put (some 9) vx).put (some 10) vy).put (some 11) vz) ∧ Hid (OwnN w W3.heap.size gs 0 cs (⟨T, [], z64, 0, 0, 0, 6⟩ : Res).st) ∧ Hid (OwnN w W3.heap.size ga 64 ca (⟨T, [], z64, 0, 0, 0, 6⟩ : Res).ce) ∧ Hid (gs ≠ ga) ∧ VB W3 x vx w zCpu ∧ VB W3 y vy w zAr ∧ VB W3 z vz w zEf) (fun x y z a w => ∃ (vx vy vz : Value) (kq : Nat) (gs : Nat) (cs : Nat) (ga : Nat) (ca : Nat), a = (((((((a0.put (some 44) (.slice (some ⟨kq, 0, none⟩) 0 0)).put (some 47) (.tuple #[.agg #[.int .i64 (⟨T, [], z64, 0, 0, 0, 6⟩ : Res).pc, .slice (some ⟨gs, 0, none⟩) 0 cs], .agg #[.slice (some ⟨ga, 0, none⟩) 64 ca], .agg #[.int .i64 (⟨T, [], z64, 0, 0, 0, 6⟩ : Res).k, .int .i64 (⟨T, [], z64, 0, 0, 0, 6⟩ : Res).po, .int .i64 (⟨T, [], z64, 0, 0, 0, 6⟩ : Res).nu, .int .i64 (⟨T, [], z64, 0, 0, 0, 6⟩ : Res).tr]])).put (some 38) (.tuple #[.agg #[.int .i64 (⟨T, [], z64, 0, 0, 0, 6⟩ : Res).pc, .slice (some ⟨gs, 0, none⟩) 0 cs], .agg #[.slice (some ⟨ga, 0, none⟩) 64 ca], .agg #[.int .i64 (⟨T, [], z64, 0, 0, 0, 6⟩ : Res).k, .int .i64 (⟨T, [], z64, 0, 0, 0, 6⟩ : Res).po, .int .i64 (⟨T, [], z64, 0, 0, 0, 6⟩ : Res).nu, .int .i64 (⟨T, [], z64, 0, 0, 0, 6⟩ : Res).tr]])).put (some 48) (.agg #[.int .i64 (⟨T, [], z64, 0, 0, 0, 6⟩ : Res).pc, .slice (some ⟨gs, 0, none⟩) 0 cs])).put (some 9) vx).put (some 10) vy).put (some 11) vz) ∧ Hid (OwnN w W3.heap.size gs 0 cs (⟨T, [], z64, 0, 0, 0, 6⟩ : Res).st) ∧ Hid (OwnN w W3.heap.size ga 64 ca (⟨T, [], z64, 0, 0, 0, 6⟩ : Res).ce) ∧ Hid (gs ≠ ga) ∧ VB W3 x vx w zCpu ∧ VB W3 y vy w zAr ∧ VB W3 z vz w zEf) 5 ?_ ?_ ?_ ?_ ?_ ?_
      · intro x y z; cases x <;> cases y <;> cases z <;> kernel_rfl
      · intro x y z; cases x <;> cases y <;> cases z <;> kernel_rfl
      · intro x y z; cases x <;> cases y <;> cases z <;> kernel_rfl
      · exact fun _ _ _ _ h => h
      · rintro x y z a w hSw ⟨vx, vy, vz, kq, gs, cs, ga, ca, rfl, Hs, Ha, Hn, bx, by_, bz⟩
        refine ⟨.agg #[.int .i64 (⟨T, [], z64, 0, 0, 0, 6⟩ : Res).pc, .slice (some ⟨gs, 0, none⟩) 0 cs], Or.inl ⟨by rw [HA0.out]; rfl, ?_⟩, vx, vy, vz, kq, gs, cs, ga, ca, (by rw [HA0.out]; simp only [Act.put, List.setIfInBounds_toArray, List.set_cons_zero, List.set_cons_succ, List.getElem_toArray, List.getElem_cons_zero, List.getElem_cons_succ]), Hs, Ha, Hn, bx, by_, bz⟩
        rw [HA0.out]
        simp only [Act.put, List.setIfInBounds_toArray, List.set_cons_zero, List.set_cons_succ]
        intro w hSw; go_simp <;> with_reducible rfl
      refine stageT (i := 11) rfl (by kernel_rfl) (fun x y z => #[true, true, true, true, true, true, true, true, true, true, true, false, false, x, y, z, false, false, false]) (fun x y z => #[true, true, true, true, true, true, true, true, true, true, true, true, false, x, y, z, false, false, false]) (fun x y z a w => ∃ (vx vy vz : Value) (kq : Nat) (gs : Nat) (cs : Nat) (ga : Nat) (ca : Nat), a = (((((((a0.put (some 44) (.slice (some ⟨kq, 0, none⟩) 0 0)).put (some 47) (.tuple #[.agg #[.int .i64 (⟨T, [], z64, 0, 0, 0, 6⟩ : Res).pc, .slice (some ⟨gs, 0, none⟩) 0 cs], .agg #[.slice (some ⟨ga, 0, none⟩) 64 ca], .agg #[.int .i64 (⟨T, [], z64, 0, 0, 0, 6⟩ : Res).k, .int .i64 (⟨T, [], z64, 0, 0, 0, 6⟩ : Res).po, .int .i64 (⟨T, [], z64, 0, 0, 0, 6⟩ : Res).nu, .int .i64 (⟨T, [], z64, 0, 0, 0, 6⟩ : Res).tr]])).put (some 38) (.tuple #[.agg #[.int .i64 (⟨T, [], z64, 0, 0, 0, 6⟩ : Res).pc, .slice (some ⟨gs, 0, none⟩) 0 cs], .agg #[.slice (some ⟨ga, 0, none⟩) 64 ca], .agg #[.int .i64 (⟨T, [], z64, 0, 0, 0, 6⟩ : Res).k, .int .i64 (⟨T, [], z64, 0, 0, 0, 6⟩ : Res).po, .int .i64 (⟨T, [], z64, 0, 0, 0, 6⟩ : Res).nu, .int .i64 (⟨T, [], z64, 0, 0, 0, 6⟩ : Res).tr]])).put (some 48) (.agg #[.int .i64 (⟨T, [], z64, 0, 0, 0, 6⟩ : Res).pc, .slice (some ⟨gs, 0, none⟩) 0 cs])).put (some 9) vx).put (some 10) vy).put (some 11) vz) ∧ Hid (OwnN w W3.heap.size gs 0 cs (⟨T, [], z64, 0, 0, 0, 6⟩ : Res).st) ∧ Hid (OwnN w W3.heap.size ga 64 ca (⟨T, [], z64, 0, 0, 0, 6⟩ : Res).ce) ∧ Hid (gs ≠ ga) ∧ VB W3 x vx w zCpu ∧ VB W3 y vy w zAr ∧ VB W3 z vz w zEf) (fun x y z a w => ∃ (vx vy vz : Value) (kq : Nat) (gs : Nat) (cs : Nat) (ga : Nat) (ca : Nat), a = ((((((((a0.put (some 44) (.slice (some ⟨kq, 0, none⟩) 0 0)).put (some 47) (.tuple #[.agg #[.int .i64 (⟨T, [], z64, 0, 0, 0, 6⟩ : Res).pc, .slice (some ⟨gs, 0, none⟩) 0 cs], .agg #[.slice (some ⟨ga, 0, none⟩) 64 ca], .agg #[.int .i64 (⟨T, [], z64, 0, 0, 0, 6⟩ : Res).k, .int .i64 (⟨T, [], z64, 0, 0, 0, 6⟩ : Res).po, .int .i64 (⟨T, [], z64, 0, 0, 0, 6⟩ : Res).nu, .int .i64 (⟨T, [], z64, 0, 0, 0, 6⟩ : Res).tr]])).put (some 38) (.tuple #[.agg #[.int .i64 (⟨T, [], z64, 0, 0, 0, 6⟩ : Res).pc, .slice (some ⟨gs, 0, none⟩) 0 cs], .agg #[.slice (some ⟨ga, 0, none⟩) 64 ca], .agg #[.int .i64 (⟨T, [], z64, 0, 0, 0, 6⟩ : Res).k, .int .i64 (⟨T, [], z64, 0, 0, 0, 6⟩ : Res).po, .int .i64 (⟨T, [], z64, 0, 0, 0, 6⟩ : Res).nu, .int .i64 (⟨T, [], z64, 0, 0, 0, 6⟩ : Res).tr]])).put (some 48) (.agg #[.int .i64 (⟨T, [], z64, 0, 0, 0, 6⟩ : Res).pc, .slice (some ⟨gs, 0, none⟩) 0 cs])).put (some 49) (.agg #[.slice (some ⟨ga, 0, none⟩) 64 ca])).put (some 9) vx).put (some 10) vy).put (some 11) vz) ∧ Hid (OwnN w W3.heap.size gs 0 cs (⟨T, [], z64, 0, 0, 0, 6⟩ : Res).st) ∧ Hid (OwnN w W3.heap.size ga 64 ca (⟨T, [], z64, 0, 0, 0, 6⟩ : Res).ce) ∧ Hid (gs ≠ ga) ∧ VB W3 x vx w zCpu ∧ VB W3 y vy w zAr ∧ VB W3 z vz w zEf) 4 ?_ ?_ ?_ ?_ ?_ ?_
      · intro x y z; cases x <;> cases y <;> cases z <;> kernel_rfl
      · intro x y z; cases x <;> cases y <;> cases z <;> kernel_rfl
      · intro x y z; cases x <;> cases y <;> cases z <;> kernel_rfl
      · exact fun _ _ _ _ h => h
      · rintro x y z a w hSw ⟨vx, vy, vz, kq, gs, cs, ga, ca, rfl, Hs, Ha, Hn, bx, by_, bz⟩
        refine ⟨.agg #[.slice (some ⟨ga, 0, none⟩) 64 ca], Or.inl ⟨by rw [HA0.out]; rfl, ?_⟩, vx, vy, vz, kq, gs, cs, ga, ca, (by rw [HA0.out]; simp only [Act.put, List.setIfInBounds_toArray, List.set_cons_zero, List.set_cons_succ, List.getElem_toArray, List.getElem_cons_zero, List.getElem_cons_succ]), Hs, Ha, Hn, bx, by_, bz⟩
        rw [HA0.out]
        simp only [Act.put, List.setIfInBounds_toArray, List.set_cons_zero, List.set_cons_succ]
        intro w hSw; go_simp <;> with_reducible rfl
      refine stageT (i := 12) rfl (by kernel_rfl) (fun x y z => #[true, true, true, true, true, true, true, true, true, true, true, true, false, x, y, z, false, false, false]) (fun x y z => #[true, true, true, true, true, true, true, true, true, true, true, true, true, x, y, z, false, false, false]) (fun x y z a w => ∃ (vx vy vz : Value) (kq : Nat) (gs : Nat) (cs : Nat) (ga : Nat) (ca : Nat), a = ((((((((a0.put (some 44) (.slice (some ⟨kq, 0, none⟩) 0 0)).put (some 47) (.tuple #[.agg #[.int .i64 (⟨T, [], z64, 0, 0, 0, 6⟩ : Res).pc, .slice (some ⟨gs, 0, none⟩) 0 cs], .agg #[.slice (some ⟨ga, 0, none⟩) 64 ca], .agg #[.int .i64 (⟨T, [], z64, 0, 0, 0, 6⟩ : Res).k, .int .i64 (⟨T, [], z64, 0, 0, 0, 6⟩ : Res).po, .int .i64 (⟨T, [], z64, 0, 0, 0, 6⟩ : Res).nu, .int .i64 (⟨T, [], z64, 0, 0, 0, 6⟩ : Res).tr]])).put (some 38) (.tuple #[.agg #[.int .i64 (⟨T, [], z64, 0, 0, 0, 6⟩ : Res).pc, .slice (some ⟨gs, 0, none⟩) 0 cs], .agg #[.slice (some ⟨ga, 0, none⟩) 64 ca], .agg #[.int .i64 (⟨T, [], z64, 0, 0, 0, 6⟩ : Res).k, .int .i64 (⟨T, [], z64, 0, 0, 0, 6⟩ : Res).po, .int .i64 (⟨T, [], z64, 0, 0, 0, 6⟩ : Res).nu, .int .i64 (⟨T, [], z64, 0, 0, 0, 6⟩ : Res).tr]])).put (some 48) (.agg #[.int .i64 (⟨T, [], z64, 0, 0, 0, 6⟩ : Res).pc, .slice (some ⟨gs, 0, none⟩) 0 cs])).put (some 49) (.agg #[.slice (some ⟨ga, 0, none⟩) 64 ca])).put (some 9) vx).put (some 10) vy).put (some 11) vz) ∧ Hid (OwnN w W3.heap.size gs 0 cs (⟨T, [], z64, 0, 0, 0, 6⟩ : Res).st) ∧ Hid (OwnN w W3.heap.size ga 64 ca (⟨T, [], z64, 0, 0, 0, 6⟩ : Res).ce) ∧ Hid (gs ≠ ga) ∧ VB W3 x vx w zCpu ∧ VB W3 y vy w zAr ∧ VB W3 z vz w zEf) (fun x y z a w => ∃ (vx vy vz : Value) (kq : Nat) (gs : Nat) (cs : Nat) (ga : Nat) (ca : Nat), a = (((((((((a0.put (some 44) (.slice (some ⟨kq, 0, none⟩) 0 0)).put (some 47) (.tuple #[.agg #[.int .i64 (⟨T, [], z64, 0, 0, 0, 6⟩ : Res).pc, .slice (some ⟨gs, 0, none⟩) 0 cs], .agg #[.slice (some ⟨ga, 0, none⟩) 64 ca], .agg #[.int .i64 (⟨T, [], z64, 0, 0, 0, 6⟩ : Res).k, .int .i64 (⟨T, [], z64, 0, 0, 0, 6⟩ : Res).po, .int .i64 (⟨T, [], z64, 0, 0, 0, 6⟩ : Res).nu, .int .i64 (⟨T, [], z64, 0, 0, 0, 6⟩ : Res).tr]])).put (some 38) (.tuple #[.agg #[.int .i64 (⟨T, [], z64, 0, 0, 0, 6⟩ : Res).pc, .slice (some ⟨gs, 0, none⟩) 0 cs], .agg #[.slice (some ⟨ga, 0, none⟩) 64 ca], .agg #[.int .i64 (⟨T, [], z64, 0, 0, 0, 6⟩ : Res).k, .int .i64 (⟨T, [], z64, 0, 0, 0, 6⟩ : Res).po, .int .i64 (⟨T, [], z64, 0, 0, 0, 6⟩ : Res).nu, .int .i64 (⟨T, [], z64, 0, 0, 0, 6⟩ : Res).tr]])).put (some 48) (.agg #[.int .i64 (⟨T, [], z64, 0, 0, 0, 6⟩ : Res).pc, .slice (some ⟨gs, 0, none⟩) 0 cs])).put (some 49) (.agg #[.slice (some ⟨ga, 0, none⟩) 64 ca])).put (some 50) (.agg #[.int .i64 (⟨T, [], z64, 0, 0, 0, 6⟩ : Res).k, .int .i64 (⟨T, [], z64, 0, 0, 0, 6⟩ : Res).po, .int .i64 (⟨T, [], z64, 0, 0, 0, 6⟩ : Res).nu, .int .i64 (⟨T, [], z64, 0, 0, 0, 6⟩ : Res).tr])).put (some 9) vx).put (some 10) vy).put (some 11) vz) ∧ Hid (OwnN w W3.heap.size gs 0 cs (⟨T, [], z64, 0, 0, 0, 6⟩ : Res).st) ∧ Hid (OwnN w W3.heap.size ga 64 ca (⟨T, [], z64, 0, 0, 0, 6⟩ : Res).ce) ∧ Hid (gs ≠ ga) ∧ VB W3 x vx w zCpu ∧ VB W3 y vy w zAr ∧ VB W3 z vz w zEf) 3 ?_ ?_ ?_ ?_ ?_ ?_
      · intro x y z; cases x <;> cases y <;> cases z <;> kernel_rfl
      · intro x y z; cases x <;> cases y <;> cases z <;> kernel_rfl
      · intro x y z; cases x <;> cases y <;> cases z <;> kernel_rfl
      · exact fun _ _ _ _ h => h
      · rintro x y z a w hSw ⟨vx, vy, vz, kq, gs, cs, ga, ca, rfl, Hs, Ha, Hn, bx, by_, bz⟩
        refine ⟨.agg #[.int .i64 (⟨T, [], z64, 0, 0, 0, 6⟩ : Res).k, .int .i64 (⟨T, [], z64, 0, 0, 0, 6⟩ : Res).po, .int .i64 (⟨T, [], z64, 0, 0, 0, 6⟩ : Res).nu, .int .i64 (⟨T, [], z64, 0, 0, 0, 6⟩ : Res).tr], Or.inl ⟨by rw [HA0.out]; rfl, ?_⟩, vx, vy, vz, kq, gs, cs, ga, ca, (by rw [HA0.out]; simp only [Act.put, List.setIfInBounds_toArray, List.set_cons_zero, List.set_cons_succ, List.getElem_toArray, List.getElem_cons_zero, List.getElem_cons_succ]), Hs, Ha, Hn, bx, by_, bz⟩
        rw [HA0.out]
        simp only [Act.put, List.setIfInBounds_toArray, List.set_cons_zero, List.set_cons_succ]
        intro w hSw; go_simp <;> with_reducible rfl
      refine stage3e (i1 := 13) (i2 := 14) (i3 := 15) (fun x y z => #[true, true, true, true, true, true, true, true, true, true, true, true, true, x, y, z, false, false, false]) (fun x y z a w => ∃ (vx vy vz : Value) (kq : Nat) (gs : Nat) (cs : Nat) (ga : Nat) (ca : Nat), a = (((((((((a0.put (some 44) (.slice (some ⟨kq, 0, none⟩) 0 0)).put (some 47) (.tuple #[.agg #[.int .i64 (⟨T, [], z64, 0, 0, 0, 6⟩ : Res).pc, .slice (some ⟨gs, 0, none⟩) 0 cs], .agg #[.slice (some ⟨ga, 0, none⟩) 64 ca], .agg #[.int .i64 (⟨T, [], z64, 0, 0, 0, 6⟩ : Res).k, .int .i64 (⟨T, [], z64, 0, 0, 0, 6⟩ : Res).po, .int .i64 (⟨T, [], z64, 0, 0, 0, 6⟩ : Res).nu, .int .i64 (⟨T, [], z64, 0, 0, 0, 6⟩ : Res).tr]])).put (some 38) (.tuple #[.agg #[.int .i64 (⟨T, [], z64, 0, 0, 0, 6⟩ : Res).pc, .slice (some ⟨gs, 0, none⟩) 0 cs], .agg #[.slice (some ⟨ga, 0, none⟩) 64 ca], .agg #[.int .i64 (⟨T, [], z64, 0, 0, 0, 6⟩ : Res).k, .int .i64 (⟨T, [], z64, 0, 0, 0, 6⟩ : Res).po, .int .i64 (⟨T, [], z64, 0, 0, 0, 6⟩ : Res).nu, .int .i64 (⟨T, [], z64, 0, 0, 0, 6⟩ : Res).tr]])).put (some 48) (.agg #[.int .i64 (⟨T, [], z64, 0, 0, 0, 6⟩ : Res).pc, .slice (some ⟨gs, 0, none⟩) 0 cs])).put (some 49) (.agg #[.slice (some ⟨ga, 0, none⟩) 64 ca])).put (some 50) (.agg #[.int .i64 (⟨T, [], z64, 0, 0, 0, 6⟩ : Res).k, .int .i64 (⟨T, [], z64, 0, 0, 0, 6⟩ : Res).po, .int .i64 (⟨T, [], z64, 0, 0, 0, 6⟩ : Res).nu, .int .i64 (⟨T, [], z64, 0, 0, 0, 6⟩ : Res).tr])).put (some 9) vx).put (some 10) vy).put (some 11) vz) ∧ Hid (OwnN w W3.heap.size gs 0 cs (⟨T, [], z64, 0, 0, 0, 6⟩ : Res).st) ∧ Hid (OwnN w W3.heap.size ga 64 ca (⟨T, [], z64, 0, 0, 0, 6⟩ : Res).ce) ∧ Hid (gs ≠ ga) ∧ VB W3 x vx w zCpu ∧ VB W3 y vy w zAr ∧ VB W3 z vz w zEf) 3 ?_ ?_ ?_ ?_ ?_ ?_ ?_ ?_ ?_
      · intro x y z hp i hi
        cases x <;> cases y <;> cases z
        · have e_ := mem_kernel (rs := [13, 14, 15]) (by kernel_rfl) hi; (first | (simp at e_ ⊢; done) | (simp at e_ ⊢; omega))
        · have e_ := mem_kernel (rs := [13, 14]) (by kernel_rfl) hi; (first | (simp at e_ ⊢; done) | (simp at e_ ⊢; omega))
        · have e_ := mem_kernel (rs := [13, 15]) (by kernel_rfl) hi; (first | (simp at e_ ⊢; done) | (simp at e_ ⊢; omega))
        · have e_ := mem_kernel (rs := [13]) (by kernel_rfl) hi; (first | (simp at e_ ⊢; done) | (simp at e_ ⊢; omega))
        · have e_ := mem_kernel (rs := [14, 15]) (by kernel_rfl) hi; (first | (simp at e_ ⊢; done) | (simp at e_ ⊢; omega))
        · have e_ := mem_kernel (rs := [14]) (by kernel_rfl) hi; (first | (simp at e_ ⊢; done) | (simp at e_ ⊢; omega))
        · have e_ := mem_kernel (rs := [15]) (by kernel_rfl) hi; (first | (simp at e_ ⊢; done) | (simp at e_ ⊢; omega))
        · simp at hp
      · intro x y z
        cases x <;> cases y <;> cases z
        · exact ne_kernel (rs := [13, 14, 15]) (by kernel_rfl) (by simp)
        · exact ne_kernel (rs := [13, 14]) (by kernel_rfl) (by simp)
        · exact ne_kernel (rs := [13, 15]) (by kernel_rfl) (by simp)
        · exact ne_kernel (rs := [13]) (by kernel_rfl) (by simp)
        · exact ne_kernel (rs := [14, 15]) (by kernel_rfl) (by simp)
        · exact ne_kernel (rs := [14]) (by kernel_rfl) (by simp)
        · exact ne_kernel (rs := [15]) (by kernel_rfl) (by simp)
        · exact ne_kernel (rs := [16]) (by kernel_rfl) (by simp)
      · intro x y; cases x <;> cases y <;> kernel_rfl
      · intro x y; cases x <;> cases y <;> kernel_rfl
      · intro x y; cases x <;> cases y <;> kernel_rfl
      · rintro y z a w hSw ⟨vx, vy, vz, kq, gs, cs, ga, ca, rfl, Hs, Ha, Hn, bx, by_, bz⟩
        refine wpOp_step (i := 13) rfl (fun K hK => ?_)
        have HK : Shut _ := hK
        clear hK
        rw [HA0.out]
        simp only [Act.put, List.setIfInBounds_toArray, List.set_cons_zero, List.set_cons_succ]
        go_simp
        exact HK.out _ _ ⟨bel_on (Nat.le_refl _) hSw (al1_b w zCpu), _, vy, vz, kq, gs, cs, ga, ca, (by rw [HA0.out]; simp only [Act.put, List.setIfInBounds_toArray, List.set_cons_zero, List.set_cons_succ]), Hs.out.on (al1_b w zCpu), Ha.out.on (al1_b w zCpu), Hn.out, VB.new hSw, by_.on (al1_b w zCpu), bz.on (al1_b w zCpu)⟩
      · rintro x z a w hSw ⟨vx, vy, vz, kq, gs, cs, ga, ca, rfl, Hs, Ha, Hn, bx, by_, bz⟩
        refine wpOp_step (i := 14) rfl (fun K hK => ?_)
        have HK : Shut _ := hK
        clear hK
        rw [HA0.out]
        simp only [Act.put, List.setIfInBounds_toArray, List.set_cons_zero, List.set_cons_succ]
        go_simp
        exact HK.out _ _ ⟨bel_on (Nat.le_refl _) hSw (al1_b w zAr), vx, _, vz, kq, gs, cs, ga, ca, (by rw [HA0.out]; simp only [Act.put, List.setIfInBounds_toArray, List.set_cons_zero, List.set_cons_succ]), Hs.out.on (al1_b w zAr), Ha.out.on (al1_b w zAr), Hn.out, bx.on (al1_b w zAr), VB.new hSw, bz.on (al1_b w zAr)⟩
      · rintro x y a w hSw ⟨vx, vy, vz, kq, gs, cs, ga, ca, rfl, Hs, Ha, Hn, bx, by_, bz⟩
        refine wpOp_step (i := 15) rfl (fun K hK => ?_)
        have HK : Shut _ := hK
        clear hK
        rw [HA0.out]
        simp only [Act.put, List.setIfInBounds_toArray, List.set_cons_zero, List.set_cons_succ]
        go_simp
        exact HK.out _ _ ⟨bel_on (Nat.le_refl _) hSw (al1_b w zEf), vx, vy, _, kq, gs, cs, ga, ca, (by rw [HA0.out]; simp only [Act.put, List.setIfInBounds_toArray, List.set_cons_zero, List.set_cons_succ]), Hs.out.on (al1_b w zEf), Ha.out.on (al1_b w zEf), Hn.out, bx.on (al1_b w zEf), by_.on (al1_b w zEf), VB.new hSw⟩
      · rintro f a w hf hSw ⟨vx, vy, vz, kq, gs, cs, ga, ca, rfl, Hs, Ha, Hn, bx, by_, bz⟩
        obtain ⟨f2, rfl⟩ : ∃ f2, f = f2 + 3 := ⟨f - 3, by omega⟩
        obtain ⟨b1, rfl, hz1, l1⟩ := bx rfl
        obtain ⟨b2, rfl, hz2, l2⟩ := by_ rfl
        obtain ⟨b3, rfl, hz3, l3⟩ := bz rfl
        have kz1 := row2_cells hz1
        have kz2 := row1_cells hz2
        have kz3 := row4_cells hz3
        have m12 := row_ne hz1 hz2 (by intro e; cases e)
        have m13 := row_ne hz1 hz3 (by intro e; cases e)
        have m23 := row_ne hz2 hz3 (by intro e; cases e)
        have m21 := m12.symm
        have m31 := m13.symm
        have m32 := m23.symm
        rw [HA0.out]
        simp only [Act.put, List.setIfInBounds_toArray, List.set_cons_zero, List.set_cons_succ]
        refine wpAnyH_ready (rs := [16]) (by kernel_rfl) (by simp) ?_
        refine AllReadyH.cons rfl (fun K hK => ?_) AllReadyH.nil
        go_simp
        refine hK.out _ _ ?_ (fun hHeld2 => ?_)
        · exact (Below.setCell (Below.setCell hSw l1 _) l1 _)
        have hT1 := hHeld2
        clear hHeld2 hK K
        refine wpAnyH_ready (rs := [17]) (by kernel_rfl) (by simp) ?_
        refine AllReadyH.cons rfl (fun K hK => ?_) AllReadyH.nil
        go_simp
        refine hK.out _ _ ?_ (fun hHeld2 => ?_)
        · exact (Below.setCell hT1 l2 _)
        have hT2 := hHeld2
        clear hHeld2 hK K
        refine wpAnyH_ready (rs := [18]) (by kernel_rfl) (by simp) ?_
        refine AllReadyH.cons rfl (fun K hK => ?_) AllReadyH.nil
        go_simp
        refine hK.out _ _ ?_ (fun hHeld2 => ?_)
        · exact (Below.setCell (Below.setCell (Below.setCell (Below.setCell hT2 l3 _) l3 _) l3 _) l3 _)
        have hT3 := hHeld2
        clear hHeld2 hK K
        refine wpAnyH_done (by kernel_rfl) ?_ _
        (try go_wp2_with fail)
        go_meet
        refine ⟨b1, b2, b3, gs, cs, ga, ca, rfl, rfl, rfl, hid ?_⟩
        with_reducible exact out_stores (R := ⟨T, [], z64, 0, 0, 0, 6⟩) hz1 hz2 hz3 Hs.out Ha.out Hn.out l1 l2 l3 hSw
  case rest =>
  rename World => w4
  obtain ⟨b1_4, b2_4, b3_4, gs4, cs4, ga4, ca4, rfl, rfl, rfl, HB4⟩ := hcut
  clear Q30 Q31 Q32 Q33 HZ3
  have N_36 : Hid ((W3).heap.size ≤ (w4).heap.size) := (HB4.out.bel).size
  have FW_37 : Hid (Below w0.heap.size w0 (w4)) := bel_on (Nat.le_refl _) FW_27.out (HB4.out.bel)
  have FP_38 : Hid (Below w1.heap.size w1 (w4)) := bel_on (Nat.le_refl _) FP_28.out (HB4.out.bel)
  have FZ_39 : Hid (RowAt (w4) g2 z64) := RowAt.on FZ_29.out (HB4.out.bel)
  have FA_40 : Hid ((w4).heap[w2.heap.size]? = some (.cells #[.slice (some ⟨g2, 0, none⟩) 64 64] 38)) := row_on FA_30.out (HB4.out.bel)
  have FG_41 : Hid ((w4).heap[w2.heap.size + 1]? = some (.cells #[.int .i64 0, .int .i64 4] 46)) := row_on FG_31.out (HB4.out.bel)
  have FE_42 : Hid ((w4).heap[w3.heap.size + 1 + 1]? = some (.cells #[.int .i64 0, .int .i64 0, .int .i64 0, .int .i64 5] 40)) := row_on FE_35.out (HB4.out.bel)
  clear FW_27 FP_28 FZ_29 FA_30 FG_31 FE_35
  have FE4_43 : Hid ((w4).heap[b3_4]? = some (.cells #[.int .i64 0, .int .i64 0, .int .i64 0, .int .i64 6] 40)) := HB4.out.2.2.1
  clear HB4
  go_wp2_with fail
  have Q40 : Hid (w4.cell? ⟨gp, 1, none⟩ = some (.int .i64 p1)) := cell_on HP.out.2.1 FP_38.out
  have Q41 : Hid (w4.cell? ⟨w2.heap.size, 0, none⟩ = some (.slice (some ⟨g2, 0, none⟩) 64 64)) := (row1_cells FA_40.out).1
  have Q42 : Hid (w4.cell? ⟨w2.heap.size + 1, 0, none⟩ = some (.int .i64 0)) := (row2_cells FG_41.out).1
  have Q43 : Hid (w4.cell? ⟨w2.heap.size + 1, 1, none⟩ = some (.int .i64 4)) := (row2_cells FG_41.out).2.1
  have HZ4 : Hid (Rd w4 (some ⟨g2, 0, none⟩) z64) := RowAt.rd FZ_39.out
  go_cut [12, 13, 14] (fun o1 o2 o3 wc => ∃ (b1 b2 b3 gs cs ga ca : Nat), o1 = .pointer (some ⟨b1, 0, none⟩) ∧ o2 = .pointer (some ⟨b2, 0, none⟩) ∧ o3 = .pointer (some ⟨b3, 0, none⟩) ∧ Hid (OutB w4 wc b1 b2 b3 gs cs ga ca 64 0 ⟨0, [], z64, 0, 0, 0, 1⟩))
  case first =>
    refine wp_region_held_drew (S := fun w' => Below w4.heap.size w4 w') (by kernel_rfl) (Below.refl _ _).drew (fun hHeld => ?_)
    refine wpAnyH_take (i := 0) (v := ?_) rfl (by kernel_rfl) (by kernel_rfl) (by kernel_rfl) (fun _ _ _ h => h) (Or.inl ⟨by rfl, ?_⟩) (by assumption) ?_
    rotate_left
    · intro w hSw; (try dsimp only at hSw); have q0_ := cell_on Q40.out hSw; have q1_ := cell_on Q41.out hSw; have q2_ := cell_on Q42.out hSw; have q3_ := cell_on Q43.out hSw; go_simp <;> with_reducible rfl
    simp only [Act.put, List.setIfInBounds_toArray, List.set_cons_zero, List.set_cons_succ, List.getElem_toArray, List.getElem_cons_zero]
    refine wpAnyH_take (i := 1) (v := ?_) rfl (by kernel_rfl) (by kernel_rfl) (by kernel_rfl) (fun _ _ _ h => h) (Or.inl ⟨by rfl, ?_⟩) (by assumption) ?_
    rotate_left
    · intro w hSw; (try dsimp only at hSw); have q0_ := cell_on Q40.out hSw; have q1_ := cell_on Q41.out hSw; have q2_ := cell_on Q42.out hSw; have q3_ := cell_on Q43.out hSw; go_simp <;> with_reducible rfl
    simp only [Act.put, List.setIfInBounds_toArray, List.set_cons_zero, List.set_cons_succ, List.getElem_toArray, List.getElem_cons_zero, List.getElem_cons_succ]
    refine wpAnyH_take (i := 2) (v := ?_) rfl (by kernel_rfl) (by kernel_rfl) (by kernel_rfl) (fun _ _ _ h => h) (Or.inl ⟨by rfl, ?_⟩) (by assumption) ?_
    rotate_left
    · intro w hSw; (try dsimp only at hSw); have q0_ := cell_on Q40.out hSw; have q1_ := cell_on Q41.out hSw; have q2_ := cell_on Q42.out hSw; have q3_ := cell_on Q43.out hSw; go_simp <;> with_reducible rfl
    simp only [Act.put, List.setIfInBounds_toArray, List.set_cons_zero, List.set_cons_succ, List.getElem_toArray, List.getElem_cons_zero, List.getElem_cons_succ]
    refine wpAnyH_take (i := 3) (v := ?_) rfl (by kernel_rfl) (by kernel_rfl) (by kernel_rfl) (fun _ _ _ h => h) (Or.inl ⟨by rfl, ?_⟩) (by assumption) ?_
    rotate_left
    · intro w hSw; (try dsimp only at hSw); have q0_ := cell_on Q40.out hSw; have q1_ := cell_on Q41.out hSw; have q2_ := cell_on Q42.out hSw; have q3_ := cell_on Q43.out hSw; go_simp <;> with_reducible rfl
    simp only [Act.put, List.setIfInBounds_toArray, List.set_cons_zero, List.set_cons_succ, List.getElem_toArray, List.getElem_cons_zero, List.getElem_cons_succ]
    refine wpAnyH_take (i := 4) (v := ?_) rfl (by kernel_rfl) (by kernel_rfl) (by kernel_rfl) (fun _ _ _ h => h) (Or.inl ⟨by rfl, ?_⟩) (by assumption) ?_
    rotate_left
    · intro w hSw; (try dsimp only at hSw); have q0_ := cell_on Q40.out hSw; have q1_ := cell_on Q41.out hSw; have q2_ := cell_on Q42.out hSw; have q3_ := cell_on Q43.out hSw; go_simp <;> with_reducible rfl
    simp only [Act.put, List.setIfInBounds_toArray, List.set_cons_zero, List.set_cons_succ, List.getElem_toArray, List.getElem_cons_zero, List.getElem_cons_succ]
    refine wpAnyH_take (i := 5) (v := ?_) rfl (by kernel_rfl) (by kernel_rfl) (by kernel_rfl) (fun _ _ _ h => h) (Or.inl ⟨by rfl, ?_⟩) (by assumption) ?_
    rotate_left
    · intro w hSw; (try dsimp only at hSw); have q0_ := cell_on Q40.out hSw; have q1_ := cell_on Q41.out hSw; have q2_ := cell_on Q42.out hSw; have q3_ := cell_on Q43.out hSw; go_simp <;> with_reducible rfl
    simp only [Act.put, List.setIfInBounds_toArray, List.set_cons_zero, List.set_cons_succ, List.getElem_toArray, List.getElem_cons_zero, List.getElem_cons_succ]
    refine wpAnyH_take (i := 6) (v := ?_) rfl (by kernel_rfl) (by kernel_rfl) (by kernel_rfl) (fun _ _ _ h => h) (Or.inl ⟨by rfl, ?_⟩) (by assumption) ?_
    rotate_left
    · intro w hSw; (try dsimp only at hSw); have q0_ := cell_on Q40.out hSw; have q1_ := cell_on Q41.out hSw; have q2_ := cell_on Q42.out hSw; have q3_ := cell_on Q43.out hSw; go_simp <;> with_reducible rfl
    simp only [Act.put, List.setIfInBounds_toArray, List.set_cons_zero, List.set_cons_succ, List.getElem_toArray, List.getElem_cons_zero, List.getElem_cons_succ]
    refine wpAnyH_take (i := 8) (v := ?_) rfl (by kernel_rfl) (by kernel_rfl) (by kernel_rfl) (fun _ _ _ h => h) (Or.inl ⟨by rfl, ?_⟩) (by assumption) ?_
    rotate_left
    · intro w hSw; (try dsimp only at hSw); have q0_ := cell_on Q40.out hSw; have q1_ := cell_on Q41.out hSw; have q2_ := cell_on Q42.out hSw; have q3_ := cell_on Q43.out hSw; go_simp <;> with_reducible rfl
    simp only [Act.put, List.setIfInBounds_toArray, List.set_cons_zero, List.set_cons_succ, List.getElem_toArray, List.getElem_cons_zero, List.getElem_cons_succ]
    refine wpAnyH_take (i := 9) (v := ?_) rfl (by kernel_rfl) (by kernel_rfl) (by kernel_rfl) (fun _ _ _ h => h) (Or.inl ⟨by rfl, ?_⟩) (by assumption) ?_
    rotate_left
    · intro w hSw; (try dsimp only at hSw); have q0_ := cell_on Q40.out hSw; have q1_ := cell_on Q41.out hSw; have q2_ := cell_on Q42.out hSw; have q3_ := cell_on Q43.out hSw; go_simp <;> with_reducible rfl
    simp only [Act.put, List.setIfInBounds_toArray, List.set_cons_zero, List.set_cons_succ, List.getElem_toArray, List.getElem_cons_zero, List.getElem_cons_succ]
    refine wpAnyH_named (fun a0 ha0 => ?_)
    have HA0 : Hid (a0 = _) := ha0
    clear ha0
    refine main_go (L := (fun x y z => #[true, true, true, true, true, true, true, false, true, true, false, false, false, false, false, x, y, z, false, false, false])) (St := (fun x y z a w => ∃ (vx vy vz : Value), a = (((a0.put (some 12) vx).put (some 13) vy).put (some 14) vz) ∧ VB w4 x vx w zCpu ∧ VB w4 y vy w zAr ∧ VB w4 z vz w zEf)) (K := 9) ?h (by kernel_rfl) (by decide) (by assumption) ⟨a0.tmps.getD 12 undef, a0.tmps.getD 13 undef, a0.tmps.getD 14 undef, (by simp only [put_self]), VB.no _ _ _ _, VB.no _ _ _ _, VB.no _ _ _ _⟩
    case h =>
      refine stage3 (i1 := 15) (i2 := 16) (i3 := 17) (c := 7) (fun x y z => #[true, true, true, true, true, true, true, false, true, true, false, false, false, false, false, x, y, z, false, false, false]) (fun x y z => #[true, true, true, true, true, true, true, true, true, true, false, false, false, false, false, x, y, z, false, false, false]) (fun x y z a w => ∃ (vx vy vz : Value), a = (((a0.put (some 12) vx).put (some 13) vy).put (some 14) vz) ∧ VB w4 x vx w zCpu ∧ VB w4 y vy w zAr ∧ VB w4 z vz w zEf) (fun x y z a w => ∃ (vx vy vz : Value) (kq : Nat), a = ((((a0.put (some 59) (.slice (some ⟨kq, 0, none⟩) 1 1)).put (some 12) vx).put (some 13) vy).put (some 14) vz) ∧ Hid (I.RowR w kq [(U, 0)]) ∧ VB w4 x vx w zCpu ∧ VB w4 y vy w zAr ∧ VB w4 z vz w zEf) 8 ?_ ?_ ?_ ?_ ?_ ?_ ?_ ?_ ?_ ?_ ?_
      · intro x y z i hi
        cases x <;> cases y <;> cases z
        · have e_ := mem_kernel (rs := [7, 15, 16, 17]) (by kernel_rfl) hi; (first | (simp at e_ ⊢; done) | (simp at e_ ⊢; omega))
        · have e_ := mem_kernel (rs := [7, 15, 16]) (by kernel_rfl) hi; (first | (simp at e_ ⊢; done) | (simp at e_ ⊢; omega))
        · have e_ := mem_kernel (rs := [7, 15, 17]) (by kernel_rfl) hi; (first | (simp at e_ ⊢; done) | (simp at e_ ⊢; omega))
        · have e_ := mem_kernel (rs := [7, 15]) (by kernel_rfl) hi; (first | (simp at e_ ⊢; done) | (simp at e_ ⊢; omega))
        · have e_ := mem_kernel (rs := [7, 16, 17]) (by kernel_rfl) hi; (first | (simp at e_ ⊢; done) | (simp at e_ ⊢; omega))
        · have e_ := mem_kernel (rs := [7, 16]) (by kernel_rfl) hi; (first | (simp at e_ ⊢; done) | (simp at e_ ⊢; omega))
        · have e_ := mem_kernel (rs := [7, 17]) (by kernel_rfl) hi; (first | (simp at e_ ⊢; done) | (simp at e_ ⊢; omega))
        · have e_ := mem_kernel (rs := [7]) (by kernel_rfl) hi; (first | (simp at e_ ⊢; done) | (simp at e_ ⊢; omega))
      · intro x y z
        cases x <;> cases y <;> cases z
        · exact ne_kernel (rs := [7, 15, 16, 17]) (by kernel_rfl) (by simp)
        · exact ne_kernel (rs := [7, 15, 16]) (by kernel_rfl) (by simp)
        · exact ne_kernel (rs := [7, 15, 17]) (by kernel_rfl) (by simp)
        · exact ne_kernel (rs := [7, 15]) (by kernel_rfl) (by simp)
        · exact ne_kernel (rs := [7, 16, 17]) (by kernel_rfl) (by simp)
        · exact ne_kernel (rs := [7, 16]) (by kernel_rfl) (by simp)
        · exact ne_kernel (rs := [7, 17]) (by kernel_rfl) (by simp)
        · exact ne_kernel (rs := [7]) (by kernel_rfl) (by simp)
      · intro x y; cases x <;> cases y <;> kernel_rfl
      · intro x y; cases x <;> cases y <;> kernel_rfl
      · intro x y; cases x <;> cases y <;> kernel_rfl
      · intro x y z; cases x <;> cases y <;> cases z <;> kernel_rfl
      · rintro y z a w hSw ⟨vx, vy, vz, rfl, bx, by_, bz⟩
        refine wpOp_step (i := 15) rfl (fun K hK => ?_)
        have HK : Shut _ := hK
        clear hK
        rw [HA0.out]
        simp only [Act.put, List.setIfInBounds_toArray, List.set_cons_zero, List.set_cons_succ]
        go_simp
        exact HK.out _ _ ⟨bel_on (Nat.le_refl _) hSw (al1_b w zCpu), _, vy, vz, (by rw [HA0.out]; simp only [Act.put, List.setIfInBounds_toArray, List.set_cons_zero, List.set_cons_succ]), VB.new hSw, by_.on (al1_b w zCpu), bz.on (al1_b w zCpu)⟩
      · rintro x z a w hSw ⟨vx, vy, vz, rfl, bx, by_, bz⟩
        refine wpOp_step (i := 16) rfl (fun K hK => ?_)
        have HK : Shut _ := hK
        clear hK
        rw [HA0.out]
        simp only [Act.put, List.setIfInBounds_toArray, List.set_cons_zero, List.set_cons_succ]
        go_simp
        exact HK.out _ _ ⟨bel_on (Nat.le_refl _) hSw (al1_b w zAr), vx, _, vz, (by rw [HA0.out]; simp only [Act.put, List.setIfInBounds_toArray, List.set_cons_zero, List.set_cons_succ]), bx.on (al1_b w zAr), VB.new hSw, bz.on (al1_b w zAr)⟩
      · rintro x y a w hSw ⟨vx, vy, vz, rfl, bx, by_, bz⟩
        refine wpOp_step (i := 17) rfl (fun K hK => ?_)
        have HK : Shut _ := hK
        clear hK
        rw [HA0.out]
        simp only [Act.put, List.setIfInBounds_toArray, List.set_cons_zero, List.set_cons_succ]
        go_simp
        exact HK.out _ _ ⟨bel_on (Nat.le_refl _) hSw (al1_b w zEf), vx, vy, _, (by rw [HA0.out]; simp only [Act.put, List.setIfInBounds_toArray, List.set_cons_zero, List.set_cons_succ]), bx.on (al1_b w zEf), by_.on (al1_b w zEf), VB.new hSw⟩
      · rintro x y z a w hSw ⟨vx, vy, vz, rfl, bx, by_, bz⟩
        refine wpOp_step (i := 7) rfl (fun K hK => ?_)
        have HK : Shut _ := hK
        clear hK
        rw [HA0.out]
        simp only [Act.put, List.setIfInBounds_toArray, List.set_cons_zero, List.set_cons_succ]
        go_simp
        exact HK.out _ _ ⟨bel_on (Nat.le_refl _) hSw (al1_b w _), vx, vy, vz, w.heap.size, (by rw [HA0.out]; simp only [Act.put, List.setIfInBounds_toArray, List.set_cons_zero, List.set_cons_succ]), heap_new w _, bx.on (al1_b w _), by_.on (al1_b w _), bz.on (al1_b w _)⟩
      refine stage3 (i1 := 15) (i2 := 16) (i3 := 17) (c := 10) (fun x y z => #[true, true, true, true, true, true, true, true, true, true, false, false, false, false, false, x, y, z, false, false, false]) (fun x y z => #[true, true, true, true, true, true, true, true, true, true, true, false, false, false, false, x, y, z, false, false, false]) (fun x y z a w => ∃ (vx vy vz : Value) (kq : Nat), a = ((((a0.put (some 59) (.slice (some ⟨kq, 0, none⟩) 1 1)).put (some 12) vx).put (some 13) vy).put (some 14) vz) ∧ Hid (I.RowR w kq [(U, 0)]) ∧ VB w4 x vx w zCpu ∧ VB w4 y vy w zAr ∧ VB w4 z vz w zEf) (fun x y z a w => ∃ (vx vy vz : Value) (kq : Nat) (gs : Nat) (cs : Nat) (ga : Nat) (ca : Nat), a = (((((a0.put (some 59) (.slice (some ⟨kq, 0, none⟩) 1 1)).put (some 62) (.tuple #[.agg #[.int .i64 (⟨0, [], z64, 0, 0, 0, 1⟩ : Res).pc, .slice (some ⟨gs, 0, none⟩) 0 cs], .agg #[.slice (some ⟨ga, 0, none⟩) 64 ca], .agg #[.int .i64 (⟨0, [], z64, 0, 0, 0, 1⟩ : Res).k, .int .i64 (⟨0, [], z64, 0, 0, 0, 1⟩ : Res).po, .int .i64 (⟨0, [], z64, 0, 0, 0, 1⟩ : Res).nu, .int .i64 (⟨0, [], z64, 0, 0, 0, 1⟩ : Res).tr]])).put (some 12) vx).put (some 13) vy).put (some 14) vz) ∧ Hid (I.RowR w kq [(U, 0)]) ∧ Hid (OwnN w w4.heap.size gs 0 cs (⟨0, [], z64, 0, 0, 0, 1⟩ : Res).st) ∧ Hid (OwnN w w4.heap.size ga 64 ca (⟨0, [], z64, 0, 0, 0, 1⟩ : Res).ce) ∧ Hid (gs ≠ ga) ∧ VB w4 x vx w zCpu ∧ VB w4 y vy w zAr ∧ VB w4 z vz w zEf) 7 ?_ ?_ ?_ ?_ ?_ ?_ ?_ ?_ ?_ ?_ ?_
      · intro x y z i hi
        cases x <;> cases y <;> cases z
        · have e_ := mem_kernel (rs := [10, 15, 16, 17]) (by kernel_rfl) hi; (first | (simp at e_ ⊢; done) | (simp at e_ ⊢; omega))
        · have e_ := mem_kernel (rs := [10, 15, 16]) (by kernel_rfl) hi; (first | (simp at e_ ⊢; done) | (simp at e_ ⊢; omega))
        · have e_ := mem_kernel (rs := [10, 15, 17]) (by kernel_rfl) hi; (first | (simp at e_ ⊢; done) | (simp at e_ ⊢; omega))
        · have e_ := mem_kernel (rs := [10, 15]) (by kernel_rfl) hi; (first | (simp at e_ ⊢; done) | (simp at e_ ⊢; omega))
        · have e_ := mem_kernel (rs := [10, 16, 17]) (by kernel_rfl) hi; (first | (simp at e_ ⊢; done) | (simp at e_ ⊢; omega))
        · have e_ := mem_kernel (rs := [10, 16]) (by kernel_rfl) hi; (first | (simp at e_ ⊢; done) | (simp at e_ ⊢; omega))
        · have e_ := mem_kernel (rs := [10, 17]) (by kernel_rfl) hi; (first | (simp at e_ ⊢; done) | (simp at e_ ⊢; omega))
        · have e_ := mem_kernel (rs := [10]) (by kernel_rfl) hi; (first | (simp at e_ ⊢; done) | (simp at e_ ⊢; omega))
      · intro x y z
        cases x <;> cases y <;> cases z
        · exact ne_kernel (rs := [10, 15, 16, 17]) (by kernel_rfl) (by simp)
        · exact ne_kernel (rs := [10, 15, 16]) (by kernel_rfl) (by simp)
        · exact ne_kernel (rs := [10, 15, 17]) (by kernel_rfl) (by simp)
        · exact ne_kernel (rs := [10, 15]) (by kernel_rfl) (by simp)
        · exact ne_kernel (rs := [10, 16, 17]) (by kernel_rfl) (by simp)
        · exact ne_kernel (rs := [10, 16]) (by kernel_rfl) (by simp)
        · exact ne_kernel (rs := [10, 17]) (by kernel_rfl) (by simp)
        · exact ne_kernel (rs := [10]) (by kernel_rfl) (by simp)
      · intro x y; cases x <;> cases y <;> kernel_rfl
      · intro x y; cases x <;> cases y <;> kernel_rfl
      · intro x y; cases x <;> cases y <;> kernel_rfl
      · intro x y z; cases x <;> cases y <;> cases z <;> kernel_rfl
      · rintro y z a w hSw ⟨vx, vy, vz, kq, rfl, Hi, bx, by_, bz⟩
        refine wpOp_step (i := 15) rfl (fun K hK => ?_)
        have HK : Shut _ := hK
        clear hK
        rw [HA0.out]
        simp only [Act.put, List.setIfInBounds_toArray, List.set_cons_zero, List.set_cons_succ]
        go_simp
        exact HK.out _ _ ⟨bel_on (Nat.le_refl _) hSw (al1_b w zCpu), _, vy, vz, kq, (by rw [HA0.out]; simp only [Act.put, List.setIfInBounds_toArray, List.set_cons_zero, List.set_cons_succ]), I.RowR.on Hi.out (al1_b w zCpu), VB.new hSw, by_.on (al1_b w zCpu), bz.on (al1_b w zCpu)⟩
      · rintro x z a w hSw ⟨vx, vy, vz, kq, rfl, Hi, bx, by_, bz⟩
        refine wpOp_step (i := 16) rfl (fun K hK => ?_)
        have HK : Shut _ := hK
        clear hK
        rw [HA0.out]
        simp only [Act.put, List.setIfInBounds_toArray, List.set_cons_zero, List.set_cons_succ]
        go_simp
        exact HK.out _ _ ⟨bel_on (Nat.le_refl _) hSw (al1_b w zAr), vx, _, vz, kq, (by rw [HA0.out]; simp only [Act.put, List.setIfInBounds_toArray, List.set_cons_zero, List.set_cons_succ]), I.RowR.on Hi.out (al1_b w zAr), bx.on (al1_b w zAr), VB.new hSw, bz.on (al1_b w zAr)⟩
      · rintro x y a w hSw ⟨vx, vy, vz, kq, rfl, Hi, bx, by_, bz⟩
        refine wpOp_step (i := 17) rfl (fun K hK => ?_)
        have HK : Shut _ := hK
        clear hK
        rw [HA0.out]
        simp only [Act.put, List.setIfInBounds_toArray, List.set_cons_zero, List.set_cons_succ]
        go_simp
        exact HK.out _ _ ⟨bel_on (Nat.le_refl _) hSw (al1_b w zEf), vx, vy, _, kq, (by rw [HA0.out]; simp only [Act.put, List.setIfInBounds_toArray, List.set_cons_zero, List.set_cons_succ]), I.RowR.on Hi.out (al1_b w zEf), bx.on (al1_b w zEf), by_.on (al1_b w zEf), VB.new hSw⟩
      · rintro x y z a w hSw ⟨vx, vy, vz, kq, rfl, Hi, bx, by_, bz⟩
        refine wpOp_step (i := 10) rfl (fun K hK => ?_)
        have HK : Shut _ := hK
        clear hK
        rw [HA0.out]
        simp only [Act.put, List.setIfInBounds_toArray, List.set_cons_zero, List.set_cons_succ]
        go_simp
        go_at_call 22
        refine (stepI none 0 [] 0 0 (some ⟨kq, 0, none⟩) [(U, 0)] 1 1 (some ⟨g2, 0, none⟩) z64 64 64 0 4 0 true ⟨0, [], z64, 0, 0, 0, 1⟩ 0 rfl (by decide) rfl (by decide) rfl (by decide) ⟨fun _ => ⟨cpuR_nil 0 (by decide) (by decide), codeR_one U 0 ⟨by omega, by omega⟩ ⟨by decide, by decide⟩, by decide⟩, fun _ => rfl⟩ (show stepV 0 [] z64 0 4 0 U 0 = _ by rw [sv_big (by omega)]; rfl) rfl _ (Rd.nil _ _) Hi.out.rd (HZ4.out.on hSw)).mono ?_
        rintro e w9 ⟨gs, cs, ga, ca, rfl, hs9, ha9, hne9, hb9⟩
        go_wp2_with fail
        exact HK.out _ _ ⟨bel_on (Nat.le_refl _) hSw (hb9), vx, vy, vz, kq, gs, cs, ga, ca, (by rw [HA0.out]; simp only [Act.put, List.setIfInBounds_toArray, List.set_cons_zero, List.set_cons_succ]), I.RowR.on Hi.out (hb9), hs9.mono hSw.size, ha9.mono hSw.size, hne9, bx.on (hb9), by_.on (hb9), bz.on (hb9)⟩
      refine stageT (i := 11) rfl (by kernel_rfl) (fun x y z => #[true, true, true, true, true, true, true, true, true, true, true, false, false, false, false, x, y, z, false, false, false]) (fun x y z => #[true, true, true, true, true, true, true, true, true, true, true, true, false, false, false, x, y, z, false, false, false]) (fun x y z a w => ∃ (vx vy vz : Value) (kq : Nat) (gs : Nat) (cs : Nat) (ga : Nat) (ca : Nat), a = (((((a0.put (some 59) (.slice (some ⟨kq, 0, none⟩) 1 1)).put (some 62) (.tuple #[.agg #[.int .i64 (⟨0, [], z64, 0, 0, 0, 1⟩ : Res).pc, .slice (some ⟨gs, 0, none⟩) 0 cs], .agg #[.slice (some ⟨ga, 0, none⟩) 64 ca], .agg #[.int .i64 (⟨0, [], z64, 0, 0, 0, 1⟩ : Res).k, .int .i64 (⟨0, [], z64, 0, 0, 0, 1⟩ : Res).po, .int .i64 (⟨0, [], z64, 0, 0, 0, 1⟩ : Res).nu, .int .i64 (⟨0, [], z64, 0, 0, 0, 1⟩ : Res).tr]])).put (some 12) vx).put (some 13) vy).put (some 14) vz) ∧ Hid (I.RowR w kq [(U, 0)]) ∧ Hid (OwnN w w4.heap.size gs 0 cs (⟨0, [], z64, 0, 0, 0, 1⟩ : Res).st) ∧ Hid (OwnN w w4.heap.size ga 64 ca (⟨0, [], z64, 0, 0, 0, 1⟩ : Res).ce) ∧ Hid (gs ≠ ga) ∧ VB w4 x vx w zCpu ∧ VB w4 y vy w zAr ∧ VB w4 z vz w zEf) (fun x y z a w => ∃ (vx vy vz : Value) (kq : Nat) (gs : Nat) (cs : Nat) (ga : Nat) (ca : Nat), a = ((((((a0.put (some 59) (.slice (some ⟨kq, 0, none⟩) 1 1)).put (some 62) (.tuple #[.agg #[.int .i64 (⟨0, [], z64, 0, 0, 0, 1⟩ : Res).pc, .slice (some ⟨gs, 0, none⟩) 0 cs], .agg #[.slice (some ⟨ga, 0, none⟩) 64 ca], .agg #[.int .i64 (⟨0, [], z64, 0, 0, 0, 1⟩ : Res).k, .int .i64 (⟨0, [], z64, 0, 0, 0, 1⟩ : Res).po, .int .i64 (⟨0, [], z64, 0, 0, 0, 1⟩ : Res).nu, .int .i64 (⟨0, [], z64, 0, 0, 0, 1⟩ : Res).tr]])).put (some 51) (.tuple #[.agg #[.int .i64 (⟨0, [], z64, 0, 0, 0, 1⟩ : Res).pc, .slice (some ⟨gs, 0, none⟩) 0 cs], .agg #[.slice (some ⟨ga, 0, none⟩) 64 ca], .agg #[.int .i64 (⟨0, [], z64, 0, 0, 0, 1⟩ : Res).k, .int .i64 (⟨0, [], z64, 0, 0, 0, 1⟩ : Res).po, .int .i64 (⟨0, [], z64, 0, 0, 0, 1⟩ : Res).nu, .int .i64 (⟨0, [], z64, 0, 0, 0, 1⟩ : Res).tr]])).put (some 12) vx).put (some 13) vy).put (some 14) vz) ∧ Hid (I.RowR w kq [(U, 0)]) ∧ Hid (OwnN w w4.heap.size gs 0 cs (⟨0, [], z64, 0, 0, 0, 1⟩ : Res).st) ∧ Hid (OwnN w w4.heap.size ga 64 ca (⟨0, [], z64, 0, 0, 0, 1⟩ : Res).ce) ∧ Hid (gs ≠ ga) ∧ VB w4 x vx w zCpu ∧ VB w4 y vy w zAr ∧ VB w4 z vz w zEf) 6 ?_ ?_ ?_ ?_ ?_ ?_
      · intro x y z; cases x <;> cases y <;> cases z <;> kernel_rfl
      · intro x y z; cases x <;> cases y <;> cases z <;> kernel_rfl
      · intro x y z; cases x <;> cases y <;> cases z <;> kernel_rfl
      · exact fun _ _ _ _ h => h
      · rintro x y z a w hSw ⟨vx, vy, vz, kq, gs, cs, ga, ca, rfl, Hi, Hs, Ha, Hn, bx, by_, bz⟩
        refine ⟨.tuple #[.agg #[.int .i64 (⟨0, [], z64, 0, 0, 0, 1⟩ : Res).pc, .slice (some ⟨gs, 0, none⟩) 0 cs], .agg #[.slice (some ⟨ga, 0, none⟩) 64 ca], .agg #[.int .i64 (⟨0, [], z64, 0, 0, 0, 1⟩ : Res).k, .int .i64 (⟨0, [], z64, 0, 0, 0, 1⟩ : Res).po, .int .i64 (⟨0, [], z64, 0, 0, 0, 1⟩ : Res).nu, .int .i64 (⟨0, [], z64, 0, 0, 0, 1⟩ : Res).tr]], Or.inl ⟨by rw [HA0.out]; rfl, ?_⟩, vx, vy, vz, kq, gs, cs, ga, ca, (by rw [HA0.out]; simp only [Act.put, List.setIfInBounds_toArray, List.set_cons_zero, List.set_cons_succ, List.getElem_toArray, List.getElem_cons_zero, List.getElem_cons_succ]), Hi, Hs, Ha, Hn, bx, by_, bz⟩
        rw [HA0.out]
        simp only [Act.put, List.setIfInBounds_toArray, List.set_cons_zero, List.set_cons_succ]
        intro w hSw; go_simp <;> with_reducible rfl
      refine stageT (i := 12) rfl (by kernel_rfl) (fun x y z => #[true, true, true, true, true, true, true, true, true, true, true, true, false, false, false, x, y, z, false, false, false]) (fun x y z => #[true, true, true, true, true, true, true, true, true, true, true, true, true, false, false, x, y, z, false, false, false]) (fun x y z a w => ∃ (vx vy vz : Value) (kq : Nat) (gs : Nat) (cs : Nat) (ga : Nat) (ca : Nat), a = ((((((a0.put (some 59) (.slice (some ⟨kq, 0, none⟩) 1 1)).put (some 62) (.tuple #[.agg #[.int .i64 (⟨0, [], z64, 0, 0, 0, 1⟩ : Res).pc, .slice (some ⟨gs, 0, none⟩) 0 cs], .agg #[.slice (some ⟨ga, 0, none⟩) 64 ca], .agg #[.int .i64 (⟨0, [], z64, 0, 0, 0, 1⟩ : Res).k, .int .i64 (⟨0, [], z64, 0, 0, 0, 1⟩ : Res).po, .int .i64 (⟨0, [], z64, 0, 0, 0, 1⟩ : Res).nu, .int .i64 (⟨0, [], z64, 0, 0, 0, 1⟩ : Res).tr]])).put (some 51) (.tuple #[.agg #[.int .i64 (⟨0, [], z64, 0, 0, 0, 1⟩ : Res).pc, .slice (some ⟨gs, 0, none⟩) 0 cs], .agg #[.slice (some ⟨ga, 0, none⟩) 64 ca], .agg #[.int .i64 (⟨0, [], z64, 0, 0, 0, 1⟩ : Res).k, .int .i64 (⟨0, [], z64, 0, 0, 0, 1⟩ : Res).po, .int .i64 (⟨0, [], z64, 0, 0, 0, 1⟩ : Res).nu, .int .i64 (⟨0, [], z64, 0, 0, 0, 1⟩ : Res).tr]])).put (some 12) vx).put (some 13) vy).put (some 14) vz) ∧ Hid (I.RowR w kq [(U, 0)]) ∧ Hid (OwnN w w4.heap.size gs 0 cs (⟨0, [], z64, 0, 0, 0, 1⟩ : Res).st) ∧ Hid (OwnN w w4.heap.size ga 64 ca (⟨0, [], z64, 0, 0, 0, 1⟩ : Res).ce) ∧ Hid (gs ≠ ga) ∧ VB w4 x vx w zCpu ∧ VB w4 y vy w zAr ∧ VB w4 z vz w zEf) (fun x y z a w => ∃ (vx vy vz : Value) (kq : Nat) (gs : Nat) (cs : Nat) (ga : Nat) (ca : Nat), a = (((((((a0.put (some 59) (.slice (some ⟨kq, 0, none⟩) 1 1)).put (some 62) (.tuple #[.agg #[.int .i64 (⟨0, [], z64, 0, 0, 0, 1⟩ : Res).pc, .slice (some ⟨gs, 0, none⟩) 0 cs], .agg #[.slice (some ⟨ga, 0, none⟩) 64 ca], .agg #[.int .i64 (⟨0, [], z64, 0, 0, 0, 1⟩ : Res).k, .int .i64 (⟨0, [], z64, 0, 0, 0, 1⟩ : Res).po, .int .i64 (⟨0, [], z64, 0, 0, 0, 1⟩ : Res).nu, .int .i64 (⟨0, [], z64, 0, 0, 0, 1⟩ : Res).tr]])).put (some 51) (.tuple #[.agg #[.int .i64 (⟨0, [], z64, 0, 0, 0, 1⟩ : Res).pc, .slice (some ⟨gs, 0, none⟩) 0 cs], .agg #[.slice (some ⟨ga, 0, none⟩) 64 ca], .agg #[.int .i64 (⟨0, [], z64, 0, 0, 0, 1⟩ : Res).k, .int .i64 (⟨0, [], z64, 0, 0, 0, 1⟩ : Res).po, .int .i64 (⟨0, [], z64, 0, 0, 0, 1⟩ : Res).nu, .int .i64 (⟨0, [], z64, 0, 0, 0, 1⟩ : Res).tr]])).put (some 63) (.agg #[.int .i64 (⟨0, [], z64, 0, 0, 0, 1⟩ : Res).pc, .slice (some ⟨gs, 0, none⟩) 0 cs])).put (some 12) vx).put (some 13) vy).put (some 14) vz) ∧ Hid (I.RowR w kq [(U, 0)]) ∧ Hid (OwnN w w4.heap.size gs 0 cs (⟨0, [], z64, 0, 0, 0, 1⟩ : Res).st) ∧ Hid (OwnN w w4.heap.size ga 64 ca (⟨0, [], z64, 0, 0, 0, 1⟩ : Res).ce) ∧ Hid (gs ≠ ga) ∧ VB w4 x vx w zCpu ∧ VB w4 y vy w zAr ∧ VB w4 z vz w zEf) 5 ?_ ?_ ?_ ?_ ?_ ?_
      · intro x y z; cases x <;> cases y <;> cases z <;> kernel_rfl
      · intro x y z; cases x <;> cases y <;> cases z <;> kernel_rfl
      · intro x y z; cases x <;> cases y <;> cases z <;> kernel_rfl
      · exact fun _ _ _ _ h => h
      · rintro x y z a w hSw ⟨vx, vy, vz, kq, gs, cs, ga, ca, rfl, Hi, Hs, Ha, Hn, bx, by_, bz⟩
        refine ⟨.agg #[.int .i64 (⟨0, [], z64, 0, 0, 0, 1⟩ : Res).pc, .slice (some ⟨gs, 0, none⟩) 0 cs], Or.inl ⟨by rw [HA0.out]; rfl, ?_⟩, vx, vy, vz, kq, gs, cs, ga, ca, (by rw [HA0.out]; simp only [Act.put, List.setIfInBounds_toArray, List.set_cons_zero, List.set_cons_succ, List.getElem_toArray, List.getElem_cons_zero, List.getElem_cons_succ]), Hi, Hs, Ha, Hn, bx, by_, bz⟩
        rw [HA0.out]
        simp only [Act.put, List.setIfInBounds_toArray, List.set_cons_zero, List.set_cons_succ]
        intro w hSw; go_simp <;> with_reducible rfl
      refine stageT (i := 13) rfl (by kernel_rfl) (fun x y z => #[true, true, true, true, true, true, true, true, true, true, true, true, true, false, false, x, y, z, false, false, false]) (fun x y z => #[true, true, true, true, true, true, true, true, true, true, true, true, true, true, false, x, y, z, false, false, false]) (fun x y z a w => ∃ (vx vy vz : Value) (kq : Nat) (gs : Nat) (cs : Nat) (ga : Nat) (ca : Nat), a = (((((((a0.put (some 59) (.slice (some ⟨kq, 0, none⟩) 1 1)).put (some 62) (.tuple #[.agg #[.int .i64 (⟨0, [], z64, 0, 0, 0, 1⟩ : Res).pc, .slice (some ⟨gs, 0, none⟩) 0 cs], .agg #[.slice (some ⟨ga, 0, none⟩) 64 ca], .agg #[.int .i64 (⟨0, [], z64, 0, 0, 0, 1⟩ : Res).k, .int .i64 (⟨0, [], z64, 0, 0, 0, 1⟩ : Res).po, .int .i64 (⟨0, [], z64, 0, 0, 0, 1⟩ : Res).nu, .int .i64 (⟨0, [], z64, 0, 0, 0, 1⟩ : Res).tr]])).put (some 51) (.tuple #[.agg #[.int .i64 (⟨0, [], z64, 0, 0, 0, 1⟩ : Res).pc, .slice (some ⟨gs, 0, none⟩) 0 cs], .agg #[.slice (some ⟨ga, 0, none⟩) 64 ca], .agg #[.int .i64 (⟨0, [], z64, 0, 0, 0, 1⟩ : Res).k, .int .i64 (⟨0, [], z64, 0, 0, 0, 1⟩ : Res).po, .int .i64 (⟨0, [], z64, 0, 0, 0, 1⟩ : Res).nu, .int .i64 (⟨0, [], z64, 0, 0, 0, 1⟩ : Res).tr]])).put (some 63) (.agg #[.int .i64 (⟨0, [], z64, 0, 0, 0, 1⟩ : Res).pc, .slice (some ⟨gs, 0, none⟩) 0 cs])).put (some 12) vx).put (some 13) vy).put (some 14) vz) ∧ Hid (I.RowR w kq [(U, 0)]) ∧ Hid (OwnN w w4.heap.size gs 0 cs (⟨0, [], z64, 0, 0, 0, 1⟩ : Res).st) ∧ Hid (OwnN w w4.heap.size ga 64 ca (⟨0, [], z64, 0, 0, 0, 1⟩ : Res).ce) ∧ Hid (gs ≠ ga) ∧ VB w4 x vx w zCpu ∧ VB w4 y vy w zAr ∧ VB w4 z vz w zEf) (fun x y z a w => ∃ (vx vy vz : Value) (kq : Nat) (gs : Nat) (cs : Nat) (ga : Nat) (ca : Nat), a = ((((((((a0.put (some 59) (.slice (some ⟨kq, 0, none⟩) 1 1)).put (some 62) (.tuple #[.agg #[.int .i64 (⟨0, [], z64, 0, 0, 0, 1⟩ : Res).pc, .slice (some ⟨gs, 0, none⟩) 0 cs], .agg #[.slice (some ⟨ga, 0, none⟩) 64 ca], .agg #[.int .i64 (⟨0, [], z64, 0, 0, 0, 1⟩ : Res).k, .int .i64 (⟨0, [], z64, 0, 0, 0, 1⟩ : Res).po, .int .i64 (⟨0, [], z64, 0, 0, 0, 1⟩ : Res).nu, .int .i64 (⟨0, [], z64, 0, 0, 0, 1⟩ : Res).tr]])).put (some 51) (.tuple #[.agg #[.int .i64 (⟨0, [], z64, 0, 0, 0, 1⟩ : Res).pc, .slice (some ⟨gs, 0, none⟩) 0 cs], .agg #[.slice (some ⟨ga, 0, none⟩) 64 ca], .agg #[.int .i64 (⟨0, [], z64, 0, 0, 0, 1⟩ : Res).k, .int .i64 (⟨0, [], z64, 0, 0, 0, 1⟩ : Res).po, .int .i64 (⟨0, [], z64, 0, 0, 0, 1⟩ : Res).nu, .int .i64 (⟨0, [], z64, 0, 0, 0, 1⟩ : Res).tr]])).put (some 63) (.agg #[.int .i64 (⟨0, [], z64, 0, 0, 0, 1⟩ : Res).pc, .slice (some ⟨gs, 0, none⟩) 0 cs])).put (some 64) (.agg #[.slice (some ⟨ga, 0, none⟩) 64 ca])).put (some 12) vx).put (some 13) vy).put (some 14) vz) ∧ Hid (I.RowR w kq [(U, 0)]) ∧ Hid (OwnN w w4.heap.size gs 0 cs (⟨0, [], z64, 0, 0, 0, 1⟩ : Res).st) ∧ Hid (OwnN w w4.heap.size ga 64 ca (⟨0, [], z64, 0, 0, 0, 1⟩ : Res).ce) ∧ Hid (gs ≠ ga) ∧ VB w4 x vx w zCpu ∧ VB w4 y vy w zAr ∧ VB w4 z vz w zEf) 4 ?_ ?_ ?_ ?_ ?_ ?_
      · intro x y z; cases x <;> cases y <;> cases z <;> kernel_rfl
      · intro x y z; cases x <;> cases y <;> cases z <;> kernel_rfl
      · intro x y z; cases x <;> cases y <;> cases z <;> kernel_rfl
      · exact fun _ _ _ _ h => h
      · rintro x y z a w hSw ⟨vx, vy, vz, kq, gs, cs, ga, ca, rfl, Hi, Hs, Ha, Hn, bx, by_, bz⟩
        refine ⟨.agg #[.slice (some ⟨ga, 0, none⟩) 64 ca], Or.inl ⟨by rw [HA0.out]; rfl, ?_⟩, vx, vy, vz, kq, gs, cs, ga, ca, (by rw [HA0.out]; simp only [Act.put, List.setIfInBounds_toArray, List.set_cons_zero, List.set_cons_succ, List.getElem_toArray, List.getElem_cons_zero, List.getElem_cons_succ]), Hi, Hs, Ha, Hn, bx, by_, bz⟩
        rw [HA0.out]
        simp only [Act.put, List.setIfInBounds_toArray, List.set_cons_zero, List.set_cons_succ]
        intro w hSw; go_simp <;> with_reducible rfl
      refine stageT (i := 14) rfl (by kernel_rfl) (fun x y z => #[true, true, true, true, true, true, true, true, true, true, true, true, true, true, false, x, y, z, false, false, false]) (fun x y z => #[true, true, true, true, true, true, true, true, true, true, true, true, true, true, true, x, y, z, false, false, false]) (fun x y z a w => ∃ (vx vy vz : Value) (kq : Nat) (gs : Nat) (cs : Nat) (ga : Nat) (ca : Nat), a = ((((((((a0.put (some 59) (.slice (some ⟨kq, 0, none⟩) 1 1)).put (some 62) (.tuple #[.agg #[.int .i64 (⟨0, [], z64, 0, 0, 0, 1⟩ : Res).pc, .slice (some ⟨gs, 0, none⟩) 0 cs], .agg #[.slice (some ⟨ga, 0, none⟩) 64 ca], .agg #[.int .i64 (⟨0, [], z64, 0, 0, 0, 1⟩ : Res).k, .int .i64 (⟨0, [], z64, 0, 0, 0, 1⟩ : Res).po, .int .i64 (⟨0, [], z64, 0, 0, 0, 1⟩ : Res).nu, .int .i64 (⟨0, [], z64, 0, 0, 0, 1⟩ : Res).tr]])).put (some 51) (.tuple #[.agg #[.int .i64 (⟨0, [], z64, 0, 0, 0, 1⟩ : Res).pc, .slice (some ⟨gs, 0, none⟩) 0 cs], .agg #[.slice (some ⟨ga, 0, none⟩) 64 ca], .agg #[.int .i64 (⟨0, [], z64, 0, 0, 0, 1⟩ : Res).k, .int .i64 (⟨0, [], z64, 0, 0, 0, 1⟩ : Res).po, .int .i64 (⟨0, [], z64, 0, 0, 0, 1⟩ : Res).nu, .int .i64 (⟨0, [], z64, 0, 0, 0, 1⟩ : Res).tr]])).put (some 63) (.agg #[.int .i64 (⟨0, [], z64, 0, 0, 0, 1⟩ : Res).pc, .slice (some ⟨gs, 0, none⟩) 0 cs])).put (some 64) (.agg #[.slice (some ⟨ga, 0, none⟩) 64 ca])).put (some 12) vx).put (some 13) vy).put (some 14) vz) ∧ Hid (I.RowR w kq [(U, 0)]) ∧ Hid (OwnN w w4.heap.size gs 0 cs (⟨0, [], z64, 0, 0, 0, 1⟩ : Res).st) ∧ Hid (OwnN w w4.heap.size ga 64 ca (⟨0, [], z64, 0, 0, 0, 1⟩ : Res).ce) ∧ Hid (gs ≠ ga) ∧ VB w4 x vx w zCpu ∧ VB w4 y vy w zAr ∧ VB w4 z vz w zEf) (fun x y z a w => ∃ (vx vy vz : Value) (kq : Nat) (gs : Nat) (cs : Nat) (ga : Nat) (ca : Nat), a = (((((((((a0.put (some 59) (.slice (some ⟨kq, 0, none⟩) 1 1)).put (some 62) (.tuple #[.agg #[.int .i64 (⟨0, [], z64, 0, 0, 0, 1⟩ : Res).pc, .slice (some ⟨gs, 0, none⟩) 0 cs], .agg #[.slice (some ⟨ga, 0, none⟩) 64 ca], .agg #[.int .i64 (⟨0, [], z64, 0, 0, 0, 1⟩ : Res).k, .int .i64 (⟨0, [], z64, 0, 0, 0, 1⟩ : Res).po, .int .i64 (⟨0, [], z64, 0, 0, 0, 1⟩ : Res).nu, .int .i64 (⟨0, [], z64, 0, 0, 0, 1⟩ : Res).tr]])).put (some 51) (.tuple #[.agg #[.int .i64 (⟨0, [], z64, 0, 0, 0, 1⟩ : Res).pc, .slice (some ⟨gs, 0, none⟩) 0 cs], .agg #[.slice (some ⟨ga, 0, none⟩) 64 ca], .agg #[.int .i64 (⟨0, [], z64, 0, 0, 0, 1⟩ : Res).k, .int .i64 (⟨0, [], z64, 0, 0, 0, 1⟩ : Res).po, .int .i64 (⟨0, [], z64, 0, 0, 0, 1⟩ : Res).nu, .int .i64 (⟨0, [], z64, 0, 0, 0, 1⟩ : Res).tr]])).put (some 63) (.agg #[.int .i64 (⟨0, [], z64, 0, 0, 0, 1⟩ : Res).pc, .slice (some ⟨gs, 0, none⟩) 0 cs])).put (some 64) (.agg #[.slice (some ⟨ga, 0, none⟩) 64 ca])).put (some 65) (.agg #[.int .i64 (⟨0, [], z64, 0, 0, 0, 1⟩ : Res).k, .int .i64 (⟨0, [], z64, 0, 0, 0, 1⟩ : Res).po, .int .i64 (⟨0, [], z64, 0, 0, 0, 1⟩ : Res).nu, .int .i64 (⟨0, [], z64, 0, 0, 0, 1⟩ : Res).tr])).put (some 12) vx).put (some 13) vy).put (some 14) vz) ∧ Hid (I.RowR w kq [(U, 0)]) ∧ Hid (OwnN w w4.heap.size gs 0 cs (⟨0, [], z64, 0, 0, 0, 1⟩ : Res).st) ∧ Hid (OwnN w w4.heap.size ga 64 ca (⟨0, [], z64, 0, 0, 0, 1⟩ : Res).ce) ∧ Hid (gs ≠ ga) ∧ VB w4 x vx w zCpu ∧ VB w4 y vy w zAr ∧ VB w4 z vz w zEf) 3 ?_ ?_ ?_ ?_ ?_ ?_
      · intro x y z; cases x <;> cases y <;> cases z <;> kernel_rfl
      · intro x y z; cases x <;> cases y <;> cases z <;> kernel_rfl
      · intro x y z; cases x <;> cases y <;> cases z <;> kernel_rfl
      · exact fun _ _ _ _ h => h
      · rintro x y z a w hSw ⟨vx, vy, vz, kq, gs, cs, ga, ca, rfl, Hi, Hs, Ha, Hn, bx, by_, bz⟩
        refine ⟨.agg #[.int .i64 (⟨0, [], z64, 0, 0, 0, 1⟩ : Res).k, .int .i64 (⟨0, [], z64, 0, 0, 0, 1⟩ : Res).po, .int .i64 (⟨0, [], z64, 0, 0, 0, 1⟩ : Res).nu, .int .i64 (⟨0, [], z64, 0, 0, 0, 1⟩ : Res).tr], Or.inl ⟨by rw [HA0.out]; rfl, ?_⟩, vx, vy, vz, kq, gs, cs, ga, ca, (by rw [HA0.out]; simp only [Act.put, List.setIfInBounds_toArray, List.set_cons_zero, List.set_cons_succ, List.getElem_toArray, List.getElem_cons_zero, List.getElem_cons_succ]), Hi, Hs, Ha, Hn, bx, by_, bz⟩
        rw [HA0.out]
        simp only [Act.put, List.setIfInBounds_toArray, List.set_cons_zero, List.set_cons_succ]
        intro w hSw; go_simp <;> with_reducible rfl
      refine stage3e (i1 := 15) (i2 := 16) (i3 := 17) (fun x y z => #[true, true, true, true, true, true, true, true, true, true, true, true, true, true, true, x, y, z, false, false, false]) (fun x y z a w => ∃ (vx vy vz : Value) (kq : Nat) (gs : Nat) (cs : Nat) (ga : Nat) (ca : Nat), a = (((((((((a0.put (some 59) (.slice (some ⟨kq, 0, none⟩) 1 1)).put (some 62) (.tuple #[.agg #[.int .i64 (⟨0, [], z64, 0, 0, 0, 1⟩ : Res).pc, .slice (some ⟨gs, 0, none⟩) 0 cs], .agg #[.slice (some ⟨ga, 0, none⟩) 64 ca], .agg #[.int .i64 (⟨0, [], z64, 0, 0, 0, 1⟩ : Res).k, .int .i64 (⟨0, [], z64, 0, 0, 0, 1⟩ : Res).po, .int .i64 (⟨0, [], z64, 0, 0, 0, 1⟩ : Res).nu, .int .i64 (⟨0, [], z64, 0, 0, 0, 1⟩ : Res).tr]])).put (some 51) (.tuple #[.agg #[.int .i64 (⟨0, [], z64, 0, 0, 0, 1⟩ : Res).pc, .slice (some ⟨gs, 0, none⟩) 0 cs], .agg #[.slice (some ⟨ga, 0, none⟩) 64 ca], .agg #[.int .i64 (⟨0, [], z64, 0, 0, 0, 1⟩ : Res).k, .int .i64 (⟨0, [], z64, 0, 0, 0, 1⟩ : Res).po, .int .i64 (⟨0, [], z64, 0, 0, 0, 1⟩ : Res).nu, .int .i64 (⟨0, [], z64, 0, 0, 0, 1⟩ : Res).tr]])).put (some 63) (.agg #[.int .i64 (⟨0, [], z64, 0, 0, 0, 1⟩ : Res).pc, .slice (some ⟨gs, 0, none⟩) 0 cs])).put (some 64) (.agg #[.slice (some ⟨ga, 0, none⟩) 64 ca])).put (some 65) (.agg #[.int .i64 (⟨0, [], z64, 0, 0, 0, 1⟩ : Res).k, .int .i64 (⟨0, [], z64, 0, 0, 0, 1⟩ : Res).po, .int .i64 (⟨0, [], z64, 0, 0, 0, 1⟩ : Res).nu, .int .i64 (⟨0, [], z64, 0, 0, 0, 1⟩ : Res).tr])).put (some 12) vx).put (some 13) vy).put (some 14) vz) ∧ Hid (I.RowR w kq [(U, 0)]) ∧ Hid (OwnN w w4.heap.size gs 0 cs (⟨0, [], z64, 0, 0, 0, 1⟩ : Res).st) ∧ Hid (OwnN w w4.heap.size ga 64 ca (⟨0, [], z64, 0, 0, 0, 1⟩ : Res).ce) ∧ Hid (gs ≠ ga) ∧ VB w4 x vx w zCpu ∧ VB w4 y vy w zAr ∧ VB w4 z vz w zEf) 3 ?_ ?_ ?_ ?_ ?_ ?_ ?_ ?_ ?_
      · intro x y z hp i hi
        cases x <;> cases y <;> cases z
        · have e_ := mem_kernel (rs := [15, 16, 17]) (by kernel_rfl) hi; (first | (simp at e_ ⊢; done) | (simp at e_ ⊢; omega))
        · have e_ := mem_kernel (rs := [15, 16]) (by kernel_rfl) hi; (first | (simp at e_ ⊢; done) | (simp at e_ ⊢; omega))
        · have e_ := mem_kernel (rs := [15, 17]) (by kernel_rfl) hi; (first | (simp at e_ ⊢; done) | (simp at e_ ⊢; omega))
        · have e_ := mem_kernel (rs := [15]) (by kernel_rfl) hi; (first | (simp at e_ ⊢; done) | (simp at e_ ⊢; omega))
        · have e_ := mem_kernel (rs := [16, 17]) (by kernel_rfl) hi; (first | (simp at e_ ⊢; done) | (simp at e_ ⊢; omega))
        · have e_ := mem_kernel (rs := [16]) (by kernel_rfl) hi; (first | (simp at e_ ⊢; done) | (simp at e_ ⊢; omega))
        · have e_ := mem_kernel (rs := [17]) (by kernel_rfl) hi; (first | (simp at e_ ⊢; done) | (simp at e_ ⊢; omega))
        · simp at hp
      · intro x y z
        cases x <;> cases y <;> cases z
        · exact ne_kernel (rs := [15, 16, 17]) (by kernel_rfl) (by simp)
        · exact ne_kernel (rs := [15, 16]) (by kernel_rfl) (by simp)
        · exact ne_kernel (rs := [15, 17]) (by kernel_rfl) (by simp)
        · exact ne_kernel (rs := [15]) (by kernel_rfl) (by simp)
        · exact ne_kernel (rs := [16, 17]) (by kernel_rfl) (by simp)
        · exact ne_kernel (rs := [16]) (by kernel_rfl) (by simp)
        · exact ne_kernel (rs := [17]) (by kernel_rfl) (by simp)
        · exact ne_kernel (rs := [18]) (by kernel_rfl) (by simp)
      · intro x y; cases x <;> cases y <;> kernel_rfl
      · intro x y; cases x <;> cases y <;> kernel_rfl
      · intro x y; cases x <;> cases y <;> kernel_rfl
      · rintro y z a w hSw ⟨vx, vy, vz, kq, gs, cs, ga, ca, rfl, Hi, Hs, Ha, Hn, bx, by_, bz⟩
        refine wpOp_step (i := 15) rfl (fun K hK => ?_)
        have HK : Shut _ := hK
        clear hK
        rw [HA0.out]
        simp only [Act.put, List.setIfInBounds_toArray, List.set_cons_zero, List.set_cons_succ]
        go_simp
        exact HK.out _ _ ⟨bel_on (Nat.le_refl _) hSw (al1_b w zCpu), _, vy, vz, kq, gs, cs, ga, ca, (by rw [HA0.out]; simp only [Act.put, List.setIfInBounds_toArray, List.set_cons_zero, List.set_cons_succ]), I.RowR.on Hi.out (al1_b w zCpu), Hs.out.on (al1_b w zCpu), Ha.out.on (al1_b w zCpu), Hn.out, VB.new hSw, by_.on (al1_b w zCpu), bz.on (al1_b w zCpu)⟩
      · rintro x z a w hSw ⟨vx, vy, vz, kq, gs, cs, ga, ca, rfl, Hi, Hs, Ha, Hn, bx, by_, bz⟩
        refine wpOp_step (i := 16) rfl (fun K hK => ?_)
        have HK : Shut _ := hK
        clear hK
        rw [HA0.out]
        simp only [Act.put, List.setIfInBounds_toArray, List.set_cons_zero, List.set_cons_succ]
        go_simp
        exact HK.out _ _ ⟨bel_on (Nat.le_refl _) hSw (al1_b w zAr), vx, _, vz, kq, gs, cs, ga, ca, (by rw [HA0.out]; simp only [Act.put, List.setIfInBounds_toArray, List.set_cons_zero, List.set_cons_succ]), I.RowR.on Hi.out (al1_b w zAr), Hs.out.on (al1_b w zAr), Ha.out.on (al1_b w zAr), Hn.out, bx.on (al1_b w zAr), VB.new hSw, bz.on (al1_b w zAr)⟩
      · rintro x y a w hSw ⟨vx, vy, vz, kq, gs, cs, ga, ca, rfl, Hi, Hs, Ha, Hn, bx, by_, bz⟩
        refine wpOp_step (i := 17) rfl (fun K hK => ?_)
        have HK : Shut _ := hK
        clear hK
        rw [HA0.out]
        simp only [Act.put, List.setIfInBounds_toArray, List.set_cons_zero, List.set_cons_succ]
        go_simp
        exact HK.out _ _ ⟨bel_on (Nat.le_refl _) hSw (al1_b w zEf), vx, vy, _, kq, gs, cs, ga, ca, (by rw [HA0.out]; simp only [Act.put, List.setIfInBounds_toArray, List.set_cons_zero, List.set_cons_succ]), I.RowR.on Hi.out (al1_b w zEf), Hs.out.on (al1_b w zEf), Ha.out.on (al1_b w zEf), Hn.out, bx.on (al1_b w zEf), by_.on (al1_b w zEf), VB.new hSw⟩
      · rintro f a w hf hSw ⟨vx, vy, vz, kq, gs, cs, ga, ca, rfl, Hi, Hs, Ha, Hn, bx, by_, bz⟩
        obtain ⟨f2, rfl⟩ : ∃ f2, f = f2 + 3 := ⟨f - 3, by omega⟩
        obtain ⟨b1, rfl, hz1, l1⟩ := bx rfl
        obtain ⟨b2, rfl, hz2, l2⟩ := by_ rfl
        obtain ⟨b3, rfl, hz3, l3⟩ := bz rfl
        have kz1 := row2_cells hz1
        have kz2 := row1_cells hz2
        have kz3 := row4_cells hz3
        have m12 := row_ne hz1 hz2 (by intro e; cases e)
        have m13 := row_ne hz1 hz3 (by intro e; cases e)
        have m23 := row_ne hz2 hz3 (by intro e; cases e)
        have m21 := m12.symm
        have m31 := m13.symm
        have m32 := m23.symm
        rw [HA0.out]
        simp only [Act.put, List.setIfInBounds_toArray, List.set_cons_zero, List.set_cons_succ]
        refine wpAnyH_ready (rs := [18]) (by kernel_rfl) (by simp) ?_
        refine AllReadyH.cons rfl (fun K hK => ?_) AllReadyH.nil
        go_simp
        refine hK.out _ _ ?_ (fun hHeld2 => ?_)
        · exact (Below.setCell (Below.setCell hSw l1 _) l1 _)
        have hT1 := hHeld2
        clear hHeld2 hK K
        refine wpAnyH_ready (rs := [19]) (by kernel_rfl) (by simp) ?_
        refine AllReadyH.cons rfl (fun K hK => ?_) AllReadyH.nil
        go_simp
        refine hK.out _ _ ?_ (fun hHeld2 => ?_)
        · exact (Below.setCell hT1 l2 _)
        have hT2 := hHeld2
        clear hHeld2 hK K
        refine wpAnyH_ready (rs := [20]) (by kernel_rfl) (by simp) ?_
        refine AllReadyH.cons rfl (fun K hK => ?_) AllReadyH.nil
        go_simp
        refine hK.out _ _ ?_ (fun hHeld2 => ?_)
        · exact (Below.setCell (Below.setCell (Below.setCell (Below.setCell hT2 l3 _) l3 _) l3 _) l3 _)
        have hT3 := hHeld2
        clear hHeld2 hK K
        refine wpAnyH_done (by kernel_rfl) ?_ _
        (try go_wp2_with fail)
        go_meet
        refine ⟨b1, b2, b3, gs, cs, ga, ca, rfl, rfl, rfl, hid ?_⟩
        with_reducible exact out_stores (R := ⟨0, [], z64, 0, 0, 0, 1⟩) hz1 hz2 hz3 Hs.out Ha.out Hn.out l1 l2 l3 hSw
  case rest =>
  rename World => w5
  obtain ⟨b1_5, b2_5, b3_5, gs5, cs5, ga5, ca5, rfl, rfl, rfl, HB5⟩ := hcut
  clear Q40 Q41 Q42 Q43 HZ4
  have N_44 : Hid ((w4).heap.size ≤ (w5).heap.size) := (HB5.out.bel).size
  have FW_45 : Hid (Below w0.heap.size w0 (w5)) := bel_on (Nat.le_refl _) FW_37.out (HB5.out.bel)
  have FP_46 : Hid (Below w1.heap.size w1 (w5)) := bel_on (Nat.le_refl _) FP_38.out (HB5.out.bel)
  have FZ_47 : Hid (RowAt (w5) g2 z64) := RowAt.on FZ_39.out (HB5.out.bel)
  have FA_48 : Hid ((w5).heap[w2.heap.size]? = some (.cells #[.slice (some ⟨g2, 0, none⟩) 64 64] 38)) := row_on FA_40.out (HB5.out.bel)
  have FG_49 : Hid ((w5).heap[w2.heap.size + 1]? = some (.cells #[.int .i64 0, .int .i64 4] 46)) := row_on FG_41.out (HB5.out.bel)
  have FE_50 : Hid ((w5).heap[w3.heap.size + 1 + 1]? = some (.cells #[.int .i64 0, .int .i64 0, .int .i64 0, .int .i64 5] 40)) := row_on FE_42.out (HB5.out.bel)
  have FE4_51 : Hid ((w5).heap[b3_4]? = some (.cells #[.int .i64 0, .int .i64 0, .int .i64 0, .int .i64 6] 40)) := row_on FE4_43.out (HB5.out.bel)
  clear FW_37 FP_38 FZ_39 FA_40 FG_41 FE_42 FE4_43
  have FE5_52 : Hid ((w5).heap[b3_5]? = some (.cells #[.int .i64 0, .int .i64 0, .int .i64 0, .int .i64 1] 40)) := HB5.out.2.2.1
  clear HB5
  have hmk8 : ∀ w : World, (Instr.makeSlice 22 (.int .i64 8) (.int .i64 8)).run Try.prog w = .ok (.slice (some ⟨w.heap.size, 0, none⟩) 8 8) (w.alloc (.cells (intsV z8).toArray 3)) := fun w => by have h := run_make_row' (P := Try.prog) 22 3 (.int .i64 0) 8 Try.underlying22 info3 rfl .i64 .i64 8 (by omega) (by omega) w; rw [made_ints] at h; exact h
  have N_53 : Hid ((w5).heap.size ≤ ((((w5.alloc (.cells (intsV z8).toArray 3)).alloc (.cells #[.int .i64 0, .slice (some ⟨w5.heap.size, 0, none⟩) 8 8] 27)).alloc (.cells #[.int .i64 1, .int .i64 1] 65))).heap.size) := (al3_b w5 (.cells (intsV z8).toArray 3) (.cells #[.int .i64 0, .slice (some ⟨w5.heap.size, 0, none⟩) 8 8] 27) (.cells #[.int .i64 1, .int .i64 1] 65)).size
  have FW_54 : Hid (Below w0.heap.size w0 ((((w5.alloc (.cells (intsV z8).toArray 3)).alloc (.cells #[.int .i64 0, .slice (some ⟨w5.heap.size, 0, none⟩) 8 8] 27)).alloc (.cells #[.int .i64 1, .int .i64 1] 65)))) := bel_on (Nat.le_refl _) FW_45.out (al3_b w5 (.cells (intsV z8).toArray 3) (.cells #[.int .i64 0, .slice (some ⟨w5.heap.size, 0, none⟩) 8 8] 27) (.cells #[.int .i64 1, .int .i64 1] 65))
  have FP_55 : Hid (Below w1.heap.size w1 ((((w5.alloc (.cells (intsV z8).toArray 3)).alloc (.cells #[.int .i64 0, .slice (some ⟨w5.heap.size, 0, none⟩) 8 8] 27)).alloc (.cells #[.int .i64 1, .int .i64 1] 65)))) := bel_on (Nat.le_refl _) FP_46.out (al3_b w5 (.cells (intsV z8).toArray 3) (.cells #[.int .i64 0, .slice (some ⟨w5.heap.size, 0, none⟩) 8 8] 27) (.cells #[.int .i64 1, .int .i64 1] 65))
  have FZ_56 : Hid (RowAt ((((w5.alloc (.cells (intsV z8).toArray 3)).alloc (.cells #[.int .i64 0, .slice (some ⟨w5.heap.size, 0, none⟩) 8 8] 27)).alloc (.cells #[.int .i64 1, .int .i64 1] 65))) g2 z64) := RowAt.on FZ_47.out (al3_b w5 (.cells (intsV z8).toArray 3) (.cells #[.int .i64 0, .slice (some ⟨w5.heap.size, 0, none⟩) 8 8] 27) (.cells #[.int .i64 1, .int .i64 1] 65))
  have FA_57 : Hid (((((w5.alloc (.cells (intsV z8).toArray 3)).alloc (.cells #[.int .i64 0, .slice (some ⟨w5.heap.size, 0, none⟩) 8 8] 27)).alloc (.cells #[.int .i64 1, .int .i64 1] 65))).heap[w2.heap.size]? = some (.cells #[.slice (some ⟨g2, 0, none⟩) 64 64] 38)) := row_on FA_48.out (al3_b w5 (.cells (intsV z8).toArray 3) (.cells #[.int .i64 0, .slice (some ⟨w5.heap.size, 0, none⟩) 8 8] 27) (.cells #[.int .i64 1, .int .i64 1] 65))
  have FG_58 : Hid (((((w5.alloc (.cells (intsV z8).toArray 3)).alloc (.cells #[.int .i64 0, .slice (some ⟨w5.heap.size, 0, none⟩) 8 8] 27)).alloc (.cells #[.int .i64 1, .int .i64 1] 65))).heap[w2.heap.size + 1]? = some (.cells #[.int .i64 0, .int .i64 4] 46)) := row_on FG_49.out (al3_b w5 (.cells (intsV z8).toArray 3) (.cells #[.int .i64 0, .slice (some ⟨w5.heap.size, 0, none⟩) 8 8] 27) (.cells #[.int .i64 1, .int .i64 1] 65))
  have FE_59 : Hid (((((w5.alloc (.cells (intsV z8).toArray 3)).alloc (.cells #[.int .i64 0, .slice (some ⟨w5.heap.size, 0, none⟩) 8 8] 27)).alloc (.cells #[.int .i64 1, .int .i64 1] 65))).heap[w3.heap.size + 1 + 1]? = some (.cells #[.int .i64 0, .int .i64 0, .int .i64 0, .int .i64 5] 40)) := row_on FE_50.out (al3_b w5 (.cells (intsV z8).toArray 3) (.cells #[.int .i64 0, .slice (some ⟨w5.heap.size, 0, none⟩) 8 8] 27) (.cells #[.int .i64 1, .int .i64 1] 65))
  have FE4_60 : Hid (((((w5.alloc (.cells (intsV z8).toArray 3)).alloc (.cells #[.int .i64 0, .slice (some ⟨w5.heap.size, 0, none⟩) 8 8] 27)).alloc (.cells #[.int .i64 1, .int .i64 1] 65))).heap[b3_4]? = some (.cells #[.int .i64 0, .int .i64 0, .int .i64 0, .int .i64 6] 40)) := row_on FE4_51.out (al3_b w5 (.cells (intsV z8).toArray 3) (.cells #[.int .i64 0, .slice (some ⟨w5.heap.size, 0, none⟩) 8 8] 27) (.cells #[.int .i64 1, .int .i64 1] 65))
  have FE5_61 : Hid (((((w5.alloc (.cells (intsV z8).toArray 3)).alloc (.cells #[.int .i64 0, .slice (some ⟨w5.heap.size, 0, none⟩) 8 8] 27)).alloc (.cells #[.int .i64 1, .int .i64 1] 65))).heap[b3_5]? = some (.cells #[.int .i64 0, .int .i64 0, .int .i64 0, .int .i64 1] 40)) := row_on FE5_52.out (al3_b w5 (.cells (intsV z8).toArray 3) (.cells #[.int .i64 0, .slice (some ⟨w5.heap.size, 0, none⟩) 8 8] 27) (.cells #[.int .i64 1, .int .i64 1] 65))
  clear FW_45 FP_46 FZ_47 FA_48 FG_49 FE_50 FE4_51 FE5_52
  have N_62 : Hid ((((w5.alloc (.cells (intsV z8).toArray 3)).alloc (.cells #[.int .i64 0, .slice (some ⟨w5.heap.size, 0, none⟩) 8 8] 27)).alloc (.cells #[.int .i64 1, .int .i64 1] 65)).heap.size = w5.heap.size + 3) := al3_s w5 (.cells (intsV z8).toArray 3) (.cells #[.int .i64 0, .slice (some ⟨w5.heap.size, 0, none⟩) 8 8] 27) (.cells #[.int .i64 1, .int .i64 1] 65)
  have FS_63 : Hid (((((w5.alloc (.cells (intsV z8).toArray 3)).alloc (.cells #[.int .i64 0, .slice (some ⟨w5.heap.size, 0, none⟩) 8 8] 27)).alloc (.cells #[.int .i64 1, .int .i64 1] 65))).heap[w5.heap.size]? = some (.cells (intsV z8).toArray 3)) := al3_1 w5 (.cells (intsV z8).toArray 3) (.cells #[.int .i64 0, .slice (some ⟨w5.heap.size, 0, none⟩) 8 8] 27) (.cells #[.int .i64 1, .int .i64 1] 65)
  have FF_64 : Hid (((((w5.alloc (.cells (intsV z8).toArray 3)).alloc (.cells #[.int .i64 0, .slice (some ⟨w5.heap.size, 0, none⟩) 8 8] 27)).alloc (.cells #[.int .i64 1, .int .i64 1] 65))).heap[w5.heap.size + 1]? = some (.cells #[.int .i64 0, .slice (some ⟨w5.heap.size, 0, none⟩) 8 8] 27)) := al3_2 w5 (.cells (intsV z8).toArray 3) (.cells #[.int .i64 0, .slice (some ⟨w5.heap.size, 0, none⟩) 8 8] 27) (.cells #[.int .i64 1, .int .i64 1] 65)
  have FJ_65 : Hid (((((w5.alloc (.cells (intsV z8).toArray 3)).alloc (.cells #[.int .i64 0, .slice (some ⟨w5.heap.size, 0, none⟩) 8 8] 27)).alloc (.cells #[.int .i64 1, .int .i64 1] 65))).heap[w5.heap.size + 1 + 1]? = some (.cells #[.int .i64 1, .int .i64 1] 65)) := al3_3 w5 (.cells (intsV z8).toArray 3) (.cells #[.int .i64 0, .slice (some ⟨w5.heap.size, 0, none⟩) 8 8] 27) (.cells #[.int .i64 1, .int .i64 1] 65)
  have kA := row1_cells FA_57.out
  have kG := row2_cells FG_58.out
  have kF := row2_cells FF_64.out
  go_wp2_with fail
  clear kA kG kF
  have hc8 : CpuR 0 z8 := z8_ok
  refine (stepI (some ⟨w5.heap.size, 0, none⟩) (0) z8 8 8 (some ⟨w5.heap.size + 1 + 1, 0, none⟩) [(1, 1)] 1 1 (some ⟨g2, 0, none⟩) z64 64 64 (0) (4) (0) true ⟨0, z8, z64, 0, 0, 0, 4⟩ 8 rfl (by decide) rfl (by decide) (by rfl) (by decide) ⟨fun _ => ⟨hc8, codeR_one 1 1 ⟨by decide, by decide⟩ ⟨by decide, by decide⟩, by decide⟩, fun _ => rfl⟩ (by rfl) rfl _ (RowAt.rd (l := z8) FS_63.out) (I.RowR.rd FJ_65.out) (RowAt.rd FZ_56.out)).mono ?_
  rintro e w6 ⟨gs6, cs6, ga6, ca6, rfl, hs6, ha6, hne6, hb6⟩
  have N_66 : Hid (((((w5.alloc (.cells (intsV z8).toArray 3)).alloc (.cells #[.int .i64 0, .slice (some ⟨w5.heap.size, 0, none⟩) 8 8] 27)).alloc (.cells #[.int .i64 1, .int .i64 1] 65))).heap.size ≤ (w6).heap.size) := (hb6).size
  have FW_67 : Hid (Below w0.heap.size w0 (w6)) := bel_on (Nat.le_refl _) FW_54.out (hb6)
  have FP_68 : Hid (Below w1.heap.size w1 (w6)) := bel_on (Nat.le_refl _) FP_55.out (hb6)
  have FZ_69 : Hid (RowAt (w6) g2 z64) := RowAt.on FZ_56.out (hb6)
  have FA_70 : Hid ((w6).heap[w2.heap.size]? = some (.cells #[.slice (some ⟨g2, 0, none⟩) 64 64] 38)) := row_on FA_57.out (hb6)
  have FG_71 : Hid ((w6).heap[w2.heap.size + 1]? = some (.cells #[.int .i64 0, .int .i64 4] 46)) := row_on FG_58.out (hb6)
  have FE_72 : Hid ((w6).heap[w3.heap.size + 1 + 1]? = some (.cells #[.int .i64 0, .int .i64 0, .int .i64 0, .int .i64 5] 40)) := row_on FE_59.out (hb6)
  have FE4_73 : Hid ((w6).heap[b3_4]? = some (.cells #[.int .i64 0, .int .i64 0, .int .i64 0, .int .i64 6] 40)) := row_on FE4_60.out (hb6)
  have FE5_74 : Hid ((w6).heap[b3_5]? = some (.cells #[.int .i64 0, .int .i64 0, .int .i64 0, .int .i64 1] 40)) := row_on FE5_61.out (hb6)
  have FS_75 : Hid ((w6).heap[w5.heap.size]? = some (.cells (intsV z8).toArray 3)) := row_on FS_63.out (hb6)
  have FF_76 : Hid ((w6).heap[w5.heap.size + 1]? = some (.cells #[.int .i64 0, .slice (some ⟨w5.heap.size, 0, none⟩) 8 8] 27)) := row_on FF_64.out (hb6)
  have FJ_77 : Hid ((w6).heap[w5.heap.size + 1 + 1]? = some (.cells #[.int .i64 1, .int .i64 1] 65)) := row_on FJ_65.out (hb6)
  clear FW_54 FP_55 FZ_56 FA_57 FG_58 FE_59 FE4_60 FE5_61 FS_63 FF_64 FJ_65
  have N_78 : Hid (((((w5.alloc (.cells (intsV z8).toArray 3)).alloc (.cells #[.int .i64 0, .slice (some ⟨w5.heap.size, 0, none⟩) 8 8] 27)).alloc (.cells #[.int .i64 1, .int .i64 1] 65))).heap.size ≤ gs6 ∧ gs6 < w6.heap.size ∧ ((((w5.alloc (.cells (intsV z8).toArray 3)).alloc (.cells #[.int .i64 0, .slice (some ⟨w5.heap.size, 0, none⟩) 8 8] 27)).alloc (.cells #[.int .i64 1, .int .i64 1] 65))).heap.size ≤ ga6 ∧ ga6 < w6.heap.size) := ⟨hs6.ge, hs6.lt, ha6.ge, ha6.lt⟩
  clear FJ_77
  clear FS_75
  clear FF_76
  clear hs6 ha6 hne6 hb6 hc8 hmk8
  have N_79 : Hid ((w6).heap.size ≤ ((((w6.alloc (.cells #[.int .i64 0, .slice (some ⟨gs6, 0, none⟩) 8 cs6] 27)).alloc (.cells #[.slice (some ⟨ga6, 0, none⟩) 64 ca6] 38)).alloc (.cells #[.int .i64 0, .int .i64 0, .int .i64 0, .int .i64 4] 40))).heap.size) := (al3_b w6 (.cells #[.int .i64 0, .slice (some ⟨gs6, 0, none⟩) 8 cs6] 27) (.cells #[.slice (some ⟨ga6, 0, none⟩) 64 ca6] 38) (.cells #[.int .i64 0, .int .i64 0, .int .i64 0, .int .i64 4] 40)).size
  have FW_80 : Hid (Below w0.heap.size w0 ((((w6.alloc (.cells #[.int .i64 0, .slice (some ⟨gs6, 0, none⟩) 8 cs6] 27)).alloc (.cells #[.slice (some ⟨ga6, 0, none⟩) 64 ca6] 38)).alloc (.cells #[.int .i64 0, .int .i64 0, .int .i64 0, .int .i64 4] 40)))) := bel_on (Nat.le_refl _) FW_67.out (al3_b w6 (.cells #[.int .i64 0, .slice (some ⟨gs6, 0, none⟩) 8 cs6] 27) (.cells #[.slice (some ⟨ga6, 0, none⟩) 64 ca6] 38) (.cells #[.int .i64 0, .int .i64 0, .int .i64 0, .int .i64 4] 40))
  have FP_81 : Hid (Below w1.heap.size w1 ((((w6.alloc (.cells #[.int .i64 0, .slice (some ⟨gs6, 0, none⟩) 8 cs6] 27)).alloc (.cells #[.slice (some ⟨ga6, 0, none⟩) 64 ca6] 38)).alloc (.cells #[.int .i64 0, .int .i64 0, .int .i64 0, .int .i64 4] 40)))) := bel_on (Nat.le_refl _) FP_68.out (al3_b w6 (.cells #[.int .i64 0, .slice (some ⟨gs6, 0, none⟩) 8 cs6] 27) (.cells #[.slice (some ⟨ga6, 0, none⟩) 64 ca6] 38) (.cells #[.int .i64 0, .int .i64 0, .int .i64 0, .int .i64 4] 40))
  have FZ_82 : Hid (RowAt ((((w6.alloc (.cells #[.int .i64 0, .slice (some ⟨gs6, 0, none⟩) 8 cs6] 27)).alloc (.cells #[.slice (some ⟨ga6, 0, none⟩) 64 ca6] 38)).alloc (.cells #[.int .i64 0, .int .i64 0, .int .i64 0, .int .i64 4] 40))) g2 z64) := RowAt.on FZ_69.out (al3_b w6 (.cells #[.int .i64 0, .slice (some ⟨gs6, 0, none⟩) 8 cs6] 27) (.cells #[.slice (some ⟨ga6, 0, none⟩) 64 ca6] 38) (.cells #[.int .i64 0, .int .i64 0, .int .i64 0, .int .i64 4] 40))
  have FA_83 : Hid (((((w6.alloc (.cells #[.int .i64 0, .slice (some ⟨gs6, 0, none⟩) 8 cs6] 27)).alloc (.cells #[.slice (some ⟨ga6, 0, none⟩) 64 ca6] 38)).alloc (.cells #[.int .i64 0, .int .i64 0, .int .i64 0, .int .i64 4] 40))).heap[w2.heap.size]? = some (.cells #[.slice (some ⟨g2, 0, none⟩) 64 64] 38)) := row_on FA_70.out (al3_b w6 (.cells #[.int .i64 0, .slice (some ⟨gs6, 0, none⟩) 8 cs6] 27) (.cells #[.slice (some ⟨ga6, 0, none⟩) 64 ca6] 38) (.cells #[.int .i64 0, .int .i64 0, .int .i64 0, .int .i64 4] 40))
  have FG_84 : Hid (((((w6.alloc (.cells #[.int .i64 0, .slice (some ⟨gs6, 0, none⟩) 8 cs6] 27)).alloc (.cells #[.slice (some ⟨ga6, 0, none⟩) 64 ca6] 38)).alloc (.cells #[.int .i64 0, .int .i64 0, .int .i64 0, .int .i64 4] 40))).heap[w2.heap.size + 1]? = some (.cells #[.int .i64 0, .int .i64 4] 46)) := row_on FG_71.out (al3_b w6 (.cells #[.int .i64 0, .slice (some ⟨gs6, 0, none⟩) 8 cs6] 27) (.cells #[.slice (some ⟨ga6, 0, none⟩) 64 ca6] 38) (.cells #[.int .i64 0, .int .i64 0, .int .i64 0, .int .i64 4] 40))
  have FE_85 : Hid (((((w6.alloc (.cells #[.int .i64 0, .slice (some ⟨gs6, 0, none⟩) 8 cs6] 27)).alloc (.cells #[.slice (some ⟨ga6, 0, none⟩) 64 ca6] 38)).alloc (.cells #[.int .i64 0, .int .i64 0, .int .i64 0, .int .i64 4] 40))).heap[w3.heap.size + 1 + 1]? = some (.cells #[.int .i64 0, .int .i64 0, .int .i64 0, .int .i64 5] 40)) := row_on FE_72.out (al3_b w6 (.cells #[.int .i64 0, .slice (some ⟨gs6, 0, none⟩) 8 cs6] 27) (.cells #[.slice (some ⟨ga6, 0, none⟩) 64 ca6] 38) (.cells #[.int .i64 0, .int .i64 0, .int .i64 0, .int .i64 4] 40))
  have FE4_86 : Hid (((((w6.alloc (.cells #[.int .i64 0, .slice (some ⟨gs6, 0, none⟩) 8 cs6] 27)).alloc (.cells #[.slice (some ⟨ga6, 0, none⟩) 64 ca6] 38)).alloc (.cells #[.int .i64 0, .int .i64 0, .int .i64 0, .int .i64 4] 40))).heap[b3_4]? = some (.cells #[.int .i64 0, .int .i64 0, .int .i64 0, .int .i64 6] 40)) := row_on FE4_73.out (al3_b w6 (.cells #[.int .i64 0, .slice (some ⟨gs6, 0, none⟩) 8 cs6] 27) (.cells #[.slice (some ⟨ga6, 0, none⟩) 64 ca6] 38) (.cells #[.int .i64 0, .int .i64 0, .int .i64 0, .int .i64 4] 40))
  have FE5_87 : Hid (((((w6.alloc (.cells #[.int .i64 0, .slice (some ⟨gs6, 0, none⟩) 8 cs6] 27)).alloc (.cells #[.slice (some ⟨ga6, 0, none⟩) 64 ca6] 38)).alloc (.cells #[.int .i64 0, .int .i64 0, .int .i64 0, .int .i64 4] 40))).heap[b3_5]? = some (.cells #[.int .i64 0, .int .i64 0, .int .i64 0, .int .i64 1] 40)) := row_on FE5_74.out (al3_b w6 (.cells #[.int .i64 0, .slice (some ⟨gs6, 0, none⟩) 8 cs6] 27) (.cells #[.slice (some ⟨ga6, 0, none⟩) 64 ca6] 38) (.cells #[.int .i64 0, .int .i64 0, .int .i64 0, .int .i64 4] 40))
  clear FW_67 FP_68 FZ_69 FA_70 FG_71 FE_72 FE4_73 FE5_74
  have N_88 : Hid ((((w6.alloc (.cells #[.int .i64 0, .slice (some ⟨gs6, 0, none⟩) 8 cs6] 27)).alloc (.cells #[.slice (some ⟨ga6, 0, none⟩) 64 ca6] 38)).alloc (.cells #[.int .i64 0, .int .i64 0, .int .i64 0, .int .i64 4] 40)).heap.size = w6.heap.size + 3) := al3_s w6 (.cells #[.int .i64 0, .slice (some ⟨gs6, 0, none⟩) 8 cs6] 27) (.cells #[.slice (some ⟨ga6, 0, none⟩) 64 ca6] 38) (.cells #[.int .i64 0, .int .i64 0, .int .i64 0, .int .i64 4] 40)
  have FY_89 : Hid (((((w6.alloc (.cells #[.int .i64 0, .slice (some ⟨gs6, 0, none⟩) 8 cs6] 27)).alloc (.cells #[.slice (some ⟨ga6, 0, none⟩) 64 ca6] 38)).alloc (.cells #[.int .i64 0, .int .i64 0, .int .i64 0, .int .i64 4] 40))).heap[w6.heap.size]? = some (.cells #[.int .i64 0, .slice (some ⟨gs6, 0, none⟩) 8 cs6] 27)) := al3_1 w6 (.cells #[.int .i64 0, .slice (some ⟨gs6, 0, none⟩) 8 cs6] 27) (.cells #[.slice (some ⟨ga6, 0, none⟩) 64 ca6] 38) (.cells #[.int .i64 0, .int .i64 0, .int .i64 0, .int .i64 4] 40)
  have FYa_90 : Hid (((((w6.alloc (.cells #[.int .i64 0, .slice (some ⟨gs6, 0, none⟩) 8 cs6] 27)).alloc (.cells #[.slice (some ⟨ga6, 0, none⟩) 64 ca6] 38)).alloc (.cells #[.int .i64 0, .int .i64 0, .int .i64 0, .int .i64 4] 40))).heap[w6.heap.size + 1]? = some (.cells #[.slice (some ⟨ga6, 0, none⟩) 64 ca6] 38)) := al3_2 w6 (.cells #[.int .i64 0, .slice (some ⟨gs6, 0, none⟩) 8 cs6] 27) (.cells #[.slice (some ⟨ga6, 0, none⟩) 64 ca6] 38) (.cells #[.int .i64 0, .int .i64 0, .int .i64 0, .int .i64 4] 40)
  have FE6_91 : Hid (((((w6.alloc (.cells #[.int .i64 0, .slice (some ⟨gs6, 0, none⟩) 8 cs6] 27)).alloc (.cells #[.slice (some ⟨ga6, 0, none⟩) 64 ca6] 38)).alloc (.cells #[.int .i64 0, .int .i64 0, .int .i64 0, .int .i64 4] 40))).heap[w6.heap.size + 1 + 1]? = some (.cells #[.int .i64 0, .int .i64 0, .int .i64 0, .int .i64 4] 40)) := al3_3 w6 (.cells #[.int .i64 0, .slice (some ⟨gs6, 0, none⟩) 8 cs6] 27) (.cells #[.slice (some ⟨ga6, 0, none⟩) 64 ca6] 38) (.cells #[.int .i64 0, .int .i64 0, .int .i64 0, .int .i64 4] 40)
  clear FYa_90
  clear FY_89
  go_wp2_with fail
  generalize hW6 : (((w6.alloc (.cells #[.int .i64 0, .slice (some ⟨gs6, 0, none⟩) 8 cs6] 27)).alloc (.cells #[.slice (some ⟨ga6, 0, none⟩) 64 ca6] 38)).alloc (.cells #[.int .i64 0, .int .i64 0, .int .i64 0, .int .i64 4] 40)) = W6 at *
  clear hW6
  have Q60 : Hid (W6.cell? ⟨gp, 2, none⟩ = some (.int .i64 p2)) := cell_on HP.out.2.2 FP_81.out
  have Q61 : Hid (W6.cell? ⟨w2.heap.size, 0, none⟩ = some (.slice (some ⟨g2, 0, none⟩) 64 64)) := (row1_cells FA_83.out).1
  have Q62 : Hid (W6.cell? ⟨w2.heap.size + 1, 0, none⟩ = some (.int .i64 0)) := (row2_cells FG_84.out).1
  have Q63 : Hid (W6.cell? ⟨w2.heap.size + 1, 1, none⟩ = some (.int .i64 4)) := (row2_cells FG_84.out).2.1
  have HZ6 : Hid (Rd W6 (some ⟨g2, 0, none⟩) z64) := RowAt.rd FZ_82.out
  go_cut [19, 20, 21] (fun o1 o2 o3 wc => ∃ (b1 b2 b3 gs cs ga ca : Nat), o1 = .pointer (some ⟨b1, 0, none⟩) ∧ o2 = .pointer (some ⟨b2, 0, none⟩) ∧ o3 = .pointer (some ⟨b3, 0, none⟩) ∧ Hid (OutB W6 wc b1 b2 b3 gs cs ga ca 64 1 ⟨1, [p2], z64, 0, 0, 0, 0⟩))
  case first =>
    refine wp_region_held_drew (S := fun w' => Below W6.heap.size W6 w') (by kernel_rfl) (Below.refl _ _).drew (fun hHeld => ?_)
    refine wpAnyH_take (i := 0) (v := ?_) rfl (by kernel_rfl) (by kernel_rfl) (by kernel_rfl) (fun _ _ _ h => h) (Or.inl ⟨by rfl, ?_⟩) (by assumption) ?_
    rotate_left
    · intro w hSw; (try dsimp only at hSw); have q0_ := cell_on Q60.out hSw; have q1_ := cell_on Q61.out hSw; have q2_ := cell_on Q62.out hSw; have q3_ := cell_on Q63.out hSw; go_simp <;> with_reducible rfl
    simp only [Act.put, List.setIfInBounds_toArray, List.set_cons_zero, List.set_cons_succ, List.getElem_toArray, List.getElem_cons_zero]
    refine wpAnyH_take (i := 1) (v := ?_) rfl (by kernel_rfl) (by kernel_rfl) (by kernel_rfl) (fun _ _ _ h => h) (Or.inl ⟨by rfl, ?_⟩) (by assumption) ?_
    rotate_left
    · intro w hSw; (try dsimp only at hSw); have q0_ := cell_on Q60.out hSw; have q1_ := cell_on Q61.out hSw; have q2_ := cell_on Q62.out hSw; have q3_ := cell_on Q63.out hSw; go_simp <;> with_reducible rfl
    simp only [Act.put, List.setIfInBounds_toArray, List.set_cons_zero, List.set_cons_succ, List.getElem_toArray, List.getElem_cons_zero, List.getElem_cons_succ]
    refine wpAnyH_take (i := 3) (v := ?_) rfl (by kernel_rfl) (by kernel_rfl) (by kernel_rfl) (fun _ _ _ h => h) (Or.inl ⟨by rfl, ?_⟩) (by assumption) ?_
    rotate_left
    · intro w hSw; (try dsimp only at hSw); have q0_ := cell_on Q60.out hSw; have q1_ := cell_on Q61.out hSw; have q2_ := cell_on Q62.out hSw; have q3_ := cell_on Q63.out hSw; go_simp <;> with_reducible rfl
    simp only [Act.put, List.setIfInBounds_toArray, List.set_cons_zero, List.set_cons_succ, List.getElem_toArray, List.getElem_cons_zero, List.getElem_cons_succ]
    refine wpAnyH_take (i := 4) (v := ?_) rfl (by kernel_rfl) (by kernel_rfl) (by kernel_rfl) (fun _ _ _ h => h) (Or.inl ⟨by rfl, ?_⟩) (by assumption) ?_
    rotate_left
    · intro w hSw; (try dsimp only at hSw); have q0_ := cell_on Q60.out hSw; have q1_ := cell_on Q61.out hSw; have q2_ := cell_on Q62.out hSw; have q3_ := cell_on Q63.out hSw; go_simp <;> with_reducible rfl
    simp only [Act.put, List.setIfInBounds_toArray, List.set_cons_zero, List.set_cons_succ, List.getElem_toArray, List.getElem_cons_zero, List.getElem_cons_succ]
    refine wpAnyH_take (i := 5) (v := ?_) rfl (by kernel_rfl) (by kernel_rfl) (by kernel_rfl) (fun _ _ _ h => h) (Or.inl ⟨by rfl, ?_⟩) (by assumption) ?_
    rotate_left
    · intro w hSw; (try dsimp only at hSw); have q0_ := cell_on Q60.out hSw; have q1_ := cell_on Q61.out hSw; have q2_ := cell_on Q62.out hSw; have q3_ := cell_on Q63.out hSw; go_simp <;> with_reducible rfl
    simp only [Act.put, List.setIfInBounds_toArray, List.set_cons_zero, List.set_cons_succ, List.getElem_toArray, List.getElem_cons_zero, List.getElem_cons_succ]
    refine wpAnyH_take (i := 6) (v := ?_) rfl (by kernel_rfl) (by kernel_rfl) (by kernel_rfl) (fun _ _ _ h => h) (Or.inl ⟨by rfl, ?_⟩) (by assumption) ?_
    rotate_left
    · intro w hSw; (try dsimp only at hSw); have q0_ := cell_on Q60.out hSw; have q1_ := cell_on Q61.out hSw; have q2_ := cell_on Q62.out hSw; have q3_ := cell_on Q63.out hSw; go_simp <;> with_reducible rfl
    simp only [Act.put, List.setIfInBounds_toArray, List.set_cons_zero, List.set_cons_succ, List.getElem_toArray, List.getElem_cons_zero, List.getElem_cons_succ]
    refine wpAnyH_take (i := 7) (v := ?_) rfl (by kernel_rfl) (by kernel_rfl) (by kernel_rfl) (fun _ _ _ h => h) (Or.inl ⟨by rfl, ?_⟩) (by assumption) ?_
    rotate_left
    · intro w hSw; (try dsimp only at hSw); have q0_ := cell_on Q60.out hSw; have q1_ := cell_on Q61.out hSw; have q2_ := cell_on Q62.out hSw; have q3_ := cell_on Q63.out hSw; go_simp <;> with_reducible rfl
    simp only [Act.put, List.setIfInBounds_toArray, List.set_cons_zero, List.set_cons_succ, List.getElem_toArray, List.getElem_cons_zero, List.getElem_cons_succ]
    refine wpAnyH_named (fun a0 ha0 => ?_)
    have HA0 : Hid (a0 = _) := ha0
    clear ha0
    refine main_go (L := (fun x y z => #[true, true, false, true, true, true, true, true, false, false, false, false, false, x, y, z, false, false, false])) (St := (fun x y z a w => ∃ (vx vy vz : Value), a = (((a0.put (some 19) vx).put (some 20) vy).put (some 21) vz) ∧ VB W6 x vx w zCpu ∧ VB W6 y vy w zAr ∧ VB W6 z vz w zEf)) (K := 9) ?h (by kernel_rfl) (by decide) (by assumption) ⟨a0.tmps.getD 19 undef, a0.tmps.getD 20 undef, a0.tmps.getD 21 undef, (by simp only [put_self]), VB.no _ _ _ _, VB.no _ _ _ _, VB.no _ _ _ _⟩
    case h =>
      refine stage3 (i1 := 13) (i2 := 14) (i3 := 15) (c := 2) (fun x y z => #[true, true, false, true, true, true, true, true, false, false, false, false, false, x, y, z, false, false, false]) (fun x y z => #[true, true, true, true, true, true, true, true, false, false, false, false, false, x, y, z, false, false, false]) (fun x y z a w => ∃ (vx vy vz : Value), a = (((a0.put (some 19) vx).put (some 20) vy).put (some 21) vz) ∧ VB W6 x vx w zCpu ∧ VB W6 y vy w zAr ∧ VB W6 z vz w zEf) (fun x y z a w => ∃ (vx vy vz : Value) (kq : Nat), a = ((((a0.put (some 81) (.slice (some ⟨kq, 0, none⟩) 1 1)).put (some 19) vx).put (some 20) vy).put (some 21) vz) ∧ Hid (I.RowR w kq [(17, 0)]) ∧ VB W6 x vx w zCpu ∧ VB W6 y vy w zAr ∧ VB W6 z vz w zEf) 8 ?_ ?_ ?_ ?_ ?_ ?_ ?_ ?_ ?_ ?_ ?_
      · intro x y z i hi
        cases x <;> cases y <;> cases z
        · have e_ := mem_kernel (rs := [2, 13, 14, 15]) (by kernel_rfl) hi; (first | (simp at e_ ⊢; done) | (simp at e_ ⊢; omega))
        · have e_ := mem_kernel (rs := [2, 13, 14]) (by kernel_rfl) hi; (first | (simp at e_ ⊢; done) | (simp at e_ ⊢; omega))
        · have e_ := mem_kernel (rs := [2, 13, 15]) (by kernel_rfl) hi; (first | (simp at e_ ⊢; done) | (simp at e_ ⊢; omega))
        · have e_ := mem_kernel (rs := [2, 13]) (by kernel_rfl) hi; (first | (simp at e_ ⊢; done) | (simp at e_ ⊢; omega))
        · have e_ := mem_kernel (rs := [2, 14, 15]) (by kernel_rfl) hi; (first | (simp at e_ ⊢; done) | (simp at e_ ⊢; omega))
        · have e_ := mem_kernel (rs := [2, 14]) (by kernel_rfl) hi; (first | (simp at e_ ⊢; done) | (simp at e_ ⊢; omega))
        · have e_ := mem_kernel (rs := [2, 15]) (by kernel_rfl) hi; (first | (simp at e_ ⊢; done) | (simp at e_ ⊢; omega))
        · have e_ := mem_kernel (rs := [2]) (by kernel_rfl) hi; (first | (simp at e_ ⊢; done) | (simp at e_ ⊢; omega))
      · intro x y z
        cases x <;> cases y <;> cases z
        · exact ne_kernel (rs := [2, 13, 14, 15]) (by kernel_rfl) (by simp)
        · exact ne_kernel (rs := [2, 13, 14]) (by kernel_rfl) (by simp)
        · exact ne_kernel (rs := [2, 13, 15]) (by kernel_rfl) (by simp)
        · exact ne_kernel (rs := [2, 13]) (by kernel_rfl) (by simp)
        · exact ne_kernel (rs := [2, 14, 15]) (by kernel_rfl) (by simp)
        · exact ne_kernel (rs := [2, 14]) (by kernel_rfl) (by simp)
        · exact ne_kernel (rs := [2, 15]) (by kernel_rfl) (by simp)
        · exact ne_kernel (rs := [2]) (by kernel_rfl) (by simp)
      · intro x y; cases x <;> cases y <;> kernel_rfl
      · intro x y; cases x <;> cases y <;> kernel_rfl
      · intro x y; cases x <;> cases y <;> kernel_rfl
      · intro x y z; cases x <;> cases y <;> cases z <;> kernel_rfl
      · rintro y z a w hSw ⟨vx, vy, vz, rfl, bx, by_, bz⟩
        refine wpOp_step (i := 13) rfl (fun K hK => ?_)
        have HK : Shut _ := hK
        clear hK
        rw [HA0.out]
        simp only [Act.put, List.setIfInBounds_toArray, List.set_cons_zero, List.set_cons_succ]
        go_simp
        exact HK.out _ _ ⟨bel_on (Nat.le_refl _) hSw (al1_b w zCpu), _, vy, vz, (by rw [HA0.out]; simp only [Act.put, List.setIfInBounds_toArray, List.set_cons_zero, List.set_cons_succ]), VB.new hSw, by_.on (al1_b w zCpu), bz.on (al1_b w zCpu)⟩
      · rintro x z a w hSw ⟨vx, vy, vz, rfl, bx, by_, bz⟩
        refine wpOp_step (i := 14) rfl (fun K hK => ?_)
        have HK : Shut _ := hK
        clear hK
        rw [HA0.out]
        simp only [Act.put, List.setIfInBounds_toArray, List.set_cons_zero, List.set_cons_succ]
        go_simp
        exact HK.out _ _ ⟨bel_on (Nat.le_refl _) hSw (al1_b w zAr), vx, _, vz, (by rw [HA0.out]; simp only [Act.put, List.setIfInBounds_toArray, List.set_cons_zero, List.set_cons_succ]), bx.on (al1_b w zAr), VB.new hSw, bz.on (al1_b w zAr)⟩
      · rintro x y a w hSw ⟨vx, vy, vz, rfl, bx, by_, bz⟩
        refine wpOp_step (i := 15) rfl (fun K hK => ?_)
        have HK : Shut _ := hK
        clear hK
        rw [HA0.out]
        simp only [Act.put, List.setIfInBounds_toArray, List.set_cons_zero, List.set_cons_succ]
        go_simp
        exact HK.out _ _ ⟨bel_on (Nat.le_refl _) hSw (al1_b w zEf), vx, vy, _, (by rw [HA0.out]; simp only [Act.put, List.setIfInBounds_toArray, List.set_cons_zero, List.set_cons_succ]), bx.on (al1_b w zEf), by_.on (al1_b w zEf), VB.new hSw⟩
      · rintro x y z a w hSw ⟨vx, vy, vz, rfl, bx, by_, bz⟩
        refine wpOp_step (i := 2) rfl (fun K hK => ?_)
        have HK : Shut _ := hK
        clear hK
        rw [HA0.out]
        simp only [Act.put, List.setIfInBounds_toArray, List.set_cons_zero, List.set_cons_succ]
        go_simp
        exact HK.out _ _ ⟨bel_on (Nat.le_refl _) hSw (al1_b w _), vx, vy, vz, w.heap.size, (by rw [HA0.out]; simp only [Act.put, List.setIfInBounds_toArray, List.set_cons_zero, List.set_cons_succ]), heap_new w _, bx.on (al1_b w _), by_.on (al1_b w _), bz.on (al1_b w _)⟩
      refine stage3 (i1 := 13) (i2 := 14) (i3 := 15) (c := 8) (fun x y z => #[true, true, true, true, true, true, true, true, false, false, false, false, false, x, y, z, false, false, false]) (fun x y z => #[true, true, true, true, true, true, true, true, true, false, false, false, false, x, y, z, false, false, false]) (fun x y z a w => ∃ (vx vy vz : Value) (kq : Nat), a = ((((a0.put (some 81) (.slice (some ⟨kq, 0, none⟩) 1 1)).put (some 19) vx).put (some 20) vy).put (some 21) vz) ∧ Hid (I.RowR w kq [(17, 0)]) ∧ VB W6 x vx w zCpu ∧ VB W6 y vy w zAr ∧ VB W6 z vz w zEf) (fun x y z a w => ∃ (vx vy vz : Value) (kq : Nat) (gs : Nat) (cs : Nat) (ga : Nat) (ca : Nat), a = (((((a0.put (some 81) (.slice (some ⟨kq, 0, none⟩) 1 1)).put (some 87) (.tuple #[.agg #[.int .i64 (⟨1, [p2], z64, 0, 0, 0, 0⟩ : Res).pc, .slice (some ⟨gs, 0, none⟩) 1 cs], .agg #[.slice (some ⟨ga, 0, none⟩) 64 ca], .agg #[.int .i64 (⟨1, [p2], z64, 0, 0, 0, 0⟩ : Res).k, .int .i64 (⟨1, [p2], z64, 0, 0, 0, 0⟩ : Res).po, .int .i64 (⟨1, [p2], z64, 0, 0, 0, 0⟩ : Res).nu, .int .i64 (⟨1, [p2], z64, 0, 0, 0, 0⟩ : Res).tr]])).put (some 19) vx).put (some 20) vy).put (some 21) vz) ∧ Hid (I.RowR w kq [(17, 0)]) ∧ Hid (OwnN w W6.heap.size gs 1 cs (⟨1, [p2], z64, 0, 0, 0, 0⟩ : Res).st) ∧ Hid (OwnN w W6.heap.size ga 64 ca (⟨1, [p2], z64, 0, 0, 0, 0⟩ : Res).ce) ∧ Hid (gs ≠ ga) ∧ VB W6 x vx w zCpu ∧ VB W6 y vy w zAr ∧ VB W6 z vz w zEf) 7 ?_ ?_ ?_ ?_ ?_ ?_ ?_ ?_ ?_ ?_ ?_
      · intro x y z i hi
        cases x <;> cases y <;> cases z
        · have e_ := mem_kernel (rs := [8, 13, 14, 15]) (by kernel_rfl) hi; (first | (simp at e_ ⊢; done) | (simp at e_ ⊢; omega))
        · have e_ := mem_kernel (rs := [8, 13, 14]) (by kernel_rfl) hi; (first | (simp at e_ ⊢; done) | (simp at e_ ⊢; omega))
        · have e_ := mem_kernel (rs := [8, 13, 15]) (by kernel_rfl) hi; (first | (simp at e_ ⊢; done) | (simp at e_ ⊢; omega))
        · have e_ := mem_kernel (rs := [8, 13]) (by kernel_rfl) hi; (first | (simp at e_ ⊢; done) | (simp at e_ ⊢; omega))
        · have e_ := mem_kernel (rs := [8, 14, 15]) (by kernel_rfl) hi; (first | (simp at e_ ⊢; done) | (simp at e_ ⊢; omega))
        · have e_ := mem_kernel (rs := [8, 14]) (by kernel_rfl) hi; (first | (simp at e_ ⊢; done) | (simp at e_ ⊢; omega))
        · have e_ := mem_kernel (rs := [8, 15]) (by kernel_rfl) hi; (first | (simp at e_ ⊢; done) | (simp at e_ ⊢; omega))
        · have e_ := mem_kernel (rs := [8]) (by kernel_rfl) hi; (first | (simp at e_ ⊢; done) | (simp at e_ ⊢; omega))
      · intro x y z
        cases x <;> cases y <;> cases z
        · exact ne_kernel (rs := [8, 13, 14, 15]) (by kernel_rfl) (by simp)
        · exact ne_kernel (rs := [8, 13, 14]) (by kernel_rfl) (by simp)
        · exact ne_kernel (rs := [8, 13, 15]) (by kernel_rfl) (by simp)
        · exact ne_kernel (rs := [8, 13]) (by kernel_rfl) (by simp)
        · exact ne_kernel (rs := [8, 14, 15]) (by kernel_rfl) (by simp)
        · exact ne_kernel (rs := [8, 14]) (by kernel_rfl) (by simp)
        · exact ne_kernel (rs := [8, 15]) (by kernel_rfl) (by simp)
        · exact ne_kernel (rs := [8]) (by kernel_rfl) (by simp)
      · intro x y; cases x <;> cases y <;> kernel_rfl
      · intro x y; cases x <;> cases y <;> kernel_rfl
      · intro x y; cases x <;> cases y <;> kernel_rfl
      · intro x y z; cases x <;> cases y <;> cases z <;> kernel_rfl
      · rintro y z a w hSw ⟨vx, vy, vz, kq, rfl, Hi, bx, by_, bz⟩
        refine wpOp_step (i := 13) rfl (fun K hK => ?_)
        have HK : Shut _ := hK
        clear hK
        rw [HA0.out]
        simp only [Act.put, List.setIfInBounds_toArray, List.set_cons_zero, List.set_cons_succ]
        go_simp
        exact HK.out _ _ ⟨bel_on (Nat.le_refl _) hSw (al1_b w zCpu), _, vy, vz, kq, (by rw [HA0.out]; simp only [Act.put, List.setIfInBounds_toArray, List.set_cons_zero, List.set_cons_succ]), I.RowR.on Hi.out (al1_b w zCpu), VB.new hSw, by_.on (al1_b w zCpu), bz.on (al1_b w zCpu)⟩
      · rintro x z a w hSw ⟨vx, vy, vz, kq, rfl, Hi, bx, by_, bz⟩
        refine wpOp_step (i := 14) rfl (fun K hK => ?_)
        have HK : Shut _ := hK
        clear hK
        rw [HA0.out]
        simp only [Act.put, List.setIfInBounds_toArray, List.set_cons_zero, List.set_cons_succ]
        go_simp
        exact HK.out _ _ ⟨bel_on (Nat.le_refl _) hSw (al1_b w zAr), vx, _, vz, kq, (by rw [HA0.out]; simp only [Act.put, List.setIfInBounds_toArray, List.set_cons_zero, List.set_cons_succ]), I.RowR.on Hi.out (al1_b w zAr), bx.on (al1_b w zAr), VB.new hSw, bz.on (al1_b w zAr)⟩
      · rintro x y a w hSw ⟨vx, vy, vz, kq, rfl, Hi, bx, by_, bz⟩
        refine wpOp_step (i := 15) rfl (fun K hK => ?_)
        have HK : Shut _ := hK
        clear hK
        rw [HA0.out]
        simp only [Act.put, List.setIfInBounds_toArray, List.set_cons_zero, List.set_cons_succ]
        go_simp
        exact HK.out _ _ ⟨bel_on (Nat.le_refl _) hSw (al1_b w zEf), vx, vy, _, kq, (by rw [HA0.out]; simp only [Act.put, List.setIfInBounds_toArray, List.set_cons_zero, List.set_cons_succ]), I.RowR.on Hi.out (al1_b w zEf), bx.on (al1_b w zEf), by_.on (al1_b w zEf), VB.new hSw⟩
      · rintro x y z a w hSw ⟨vx, vy, vz, kq, rfl, Hi, bx, by_, bz⟩
        refine wpOp_step (i := 8) rfl (fun K hK => ?_)
        have HK : Shut _ := hK
        clear hK
        rw [HA0.out]
        simp only [Act.put, List.setIfInBounds_toArray, List.set_cons_zero, List.set_cons_succ]
        go_simp
        go_at_call 22
        refine (stepI none 0 [] 0 0 (some ⟨kq, 0, none⟩) [(17, 0)] 1 1 (some ⟨g2, 0, none⟩) z64 64 64 0 4 p2 true ⟨1, [p2], z64, 0, 0, 0, 0⟩ 1 rfl (by decide) rfl (by decide) rfl (by decide) ⟨fun _ => ⟨cpuR_nil 0 (by decide) (by decide), codeR_one 17 0 ⟨by decide, by decide⟩ ⟨by decide, by decide⟩, by decide⟩, fun _ => rfl⟩ (show okR 1 ([] ++ [p2 % 65536]) z64 = _ by rw [show p2 % 65536 = p2 by omega]; rfl) rfl _ (Rd.nil _ _) Hi.out.rd (HZ6.out.on hSw)).mono ?_
        rintro e w9 ⟨gs, cs, ga, ca, rfl, hs9, ha9, hne9, hb9⟩
        go_wp2_with fail
        exact HK.out _ _ ⟨bel_on (Nat.le_refl _) hSw (hb9), vx, vy, vz, kq, gs, cs, ga, ca, (by rw [HA0.out]; simp only [Act.put, List.setIfInBounds_toArray, List.set_cons_zero, List.set_cons_succ]), I.RowR.on Hi.out (hb9), hs9.mono hSw.size, ha9.mono hSw.size, hne9, bx.on (hb9), by_.on (hb9), bz.on (hb9)⟩
      refine stageT (i := 9) rfl (by kernel_rfl) (fun x y z => #[true, true, true, true, true, true, true, true, true, false, false, false, false, x, y, z, false, false, false]) (fun x y z => #[true, true, true, true, true, true, true, true, true, true, false, false, false, x, y, z, false, false, false]) (fun x y z a w => ∃ (vx vy vz : Value) (kq : Nat) (gs : Nat) (cs : Nat) (ga : Nat) (ca : Nat), a = (((((a0.put (some 81) (.slice (some ⟨kq, 0, none⟩) 1 1)).put (some 87) (.tuple #[.agg #[.int .i64 (⟨1, [p2], z64, 0, 0, 0, 0⟩ : Res).pc, .slice (some ⟨gs, 0, none⟩) 1 cs], .agg #[.slice (some ⟨ga, 0, none⟩) 64 ca], .agg #[.int .i64 (⟨1, [p2], z64, 0, 0, 0, 0⟩ : Res).k, .int .i64 (⟨1, [p2], z64, 0, 0, 0, 0⟩ : Res).po, .int .i64 (⟨1, [p2], z64, 0, 0, 0, 0⟩ : Res).nu, .int .i64 (⟨1, [p2], z64, 0, 0, 0, 0⟩ : Res).tr]])).put (some 19) vx).put (some 20) vy).put (some 21) vz) ∧ Hid (I.RowR w kq [(17, 0)]) ∧ Hid (OwnN w W6.heap.size gs 1 cs (⟨1, [p2], z64, 0, 0, 0, 0⟩ : Res).st) ∧ Hid (OwnN w W6.heap.size ga 64 ca (⟨1, [p2], z64, 0, 0, 0, 0⟩ : Res).ce) ∧ Hid (gs ≠ ga) ∧ VB W6 x vx w zCpu ∧ VB W6 y vy w zAr ∧ VB W6 z vz w zEf) (fun x y z a w => ∃ (vx vy vz : Value) (kq : Nat) (gs : Nat) (cs : Nat) (ga : Nat) (ca : Nat), a = ((((((a0.put (some 81) (.slice (some ⟨kq, 0, none⟩) 1 1)).put (some 87) (.tuple #[.agg #[.int .i64 (⟨1, [p2], z64, 0, 0, 0, 0⟩ : Res).pc, .slice (some ⟨gs, 0, none⟩) 1 cs], .agg #[.slice (some ⟨ga, 0, none⟩) 64 ca], .agg #[.int .i64 (⟨1, [p2], z64, 0, 0, 0, 0⟩ : Res).k, .int .i64 (⟨1, [p2], z64, 0, 0, 0, 0⟩ : Res).po, .int .i64 (⟨1, [p2], z64, 0, 0, 0, 0⟩ : Res).nu, .int .i64 (⟨1, [p2], z64, 0, 0, 0, 0⟩ : Res).tr]])).put (some 78) (.tuple #[.agg #[.int .i64 (⟨1, [p2], z64, 0, 0, 0, 0⟩ : Res).pc, .slice (some ⟨gs, 0, none⟩) 1 cs], .agg #[.slice (some ⟨ga, 0, none⟩) 64 ca], .agg #[.int .i64 (⟨1, [p2], z64, 0, 0, 0, 0⟩ : Res).k, .int .i64 (⟨1, [p2], z64, 0, 0, 0, 0⟩ : Res).po, .int .i64 (⟨1, [p2], z64, 0, 0, 0, 0⟩ : Res).nu, .int .i64 (⟨1, [p2], z64, 0, 0, 0, 0⟩ : Res).tr]])).put (some 19) vx).put (some 20) vy).put (some 21) vz) ∧ Hid (I.RowR w kq [(17, 0)]) ∧ Hid (OwnN w W6.heap.size gs 1 cs (⟨1, [p2], z64, 0, 0, 0, 0⟩ : Res).st) ∧ Hid (OwnN w W6.heap.size ga 64 ca (⟨1, [p2], z64, 0, 0, 0, 0⟩ : Res).ce) ∧ Hid (gs ≠ ga) ∧ VB W6 x vx w zCpu ∧ VB W6 y vy w zAr ∧ VB W6 z vz w zEf) 6 ?_ ?_ ?_ ?_ ?_ ?_
      · intro x y z; cases x <;> cases y <;> cases z <;> kernel_rfl
      · intro x y z; cases x <;> cases y <;> cases z <;> kernel_rfl
      · intro x y z; cases x <;> cases y <;> cases z <;> kernel_rfl
      · exact fun _ _ _ _ h => h
      · rintro x y z a w hSw ⟨vx, vy, vz, kq, gs, cs, ga, ca, rfl, Hi, Hs, Ha, Hn, bx, by_, bz⟩
        refine ⟨.tuple #[.agg #[.int .i64 (⟨1, [p2], z64, 0, 0, 0, 0⟩ : Res).pc, .slice (some ⟨gs, 0, none⟩) 1 cs], .agg #[.slice (some ⟨ga, 0, none⟩) 64 ca], .agg #[.int .i64 (⟨1, [p2], z64, 0, 0, 0, 0⟩ : Res).k, .int .i64 (⟨1, [p2], z64, 0, 0, 0, 0⟩ : Res).po, .int .i64 (⟨1, [p2], z64, 0, 0, 0, 0⟩ : Res).nu, .int .i64 (⟨1, [p2], z64, 0, 0, 0, 0⟩ : Res).tr]], Or.inl ⟨by rw [HA0.out]; rfl, ?_⟩, vx, vy, vz, kq, gs, cs, ga, ca, (by rw [HA0.out]; simp only [Act.put, List.setIfInBounds_toArray, List.set_cons_zero, List.set_cons_succ, List.getElem_toArray, List.getElem_cons_zero, List.getElem_cons_succ]), Hi, Hs, Ha, Hn, bx, by_, bz⟩
        rw [HA0.out]
        simp only [Act.put, List.setIfInBounds_toArray, List.set_cons_zero, List.set_cons_succ]
        intro w hSw; go_simp <;> with_reducible rfl
      refine stageT (i := 10) rfl (by kernel_rfl) (fun x y z => #[true, true, true, true, true, true, true, true, true, true, false, false, false, x, y, z, false, false, false]) (fun x y z => #[true, true, true, true, true, true, true, true, true, true, true, false, false, x, y, z, false, false, false]) (fun x y z a w => ∃ (vx vy vz : Value) (kq : Nat) (gs : Nat) (cs : Nat) (ga : Nat) (ca : Nat), a = ((((((a0.put (some 81) (.slice (some ⟨kq, 0, none⟩) 1 1)).put (some 87) (.tuple #[.agg #[.int .i64 (⟨1, [p2], z64, 0, 0, 0, 0⟩ : Res).pc, .slice (some ⟨gs, 0, none⟩) 1 cs], .agg #[.slice (some ⟨ga, 0, none⟩) 64 ca], .agg #[.int .i64 (⟨1, [p2], z64, 0, 0, 0, 0⟩ : Res).k, .int .i64 (⟨1, [p2], z64, 0, 0, 0, 0⟩ : Res).po, .int .i64 (⟨1, [p2], z64, 0, 0, 0, 0⟩ : Res).nu, .int .i64 (⟨1, [p2], z64, 0, 0, 0, 0⟩ : Res).tr]])).put (some 78) (.tuple #[.agg #[.int .i64 (⟨1, [p2], z64, 0, 0, 0, 0⟩ : Res).pc, .slice (some ⟨gs, 0, none⟩) 1 cs], .agg #[.slice (some ⟨ga, 0, none⟩) 64 ca], .agg #[.int .i64 (⟨1, [p2], z64, 0, 0, 0, 0⟩ : Res).k, .int .i64 (⟨1, [p2], z64, 0, 0, 0, 0⟩ : Res).po, .int .i64 (⟨1, [p2], z64, 0, 0, 0, 0⟩ : Res).nu, .int .i64 (⟨1, [p2], z64, 0, 0, 0, 0⟩ : Res).tr]])).put (some 19) vx).put (some 20) vy).put (some 21) vz) ∧ Hid (I.RowR w kq [(17, 0)]) ∧ Hid (OwnN w W6.heap.size gs 1 cs (⟨1, [p2], z64, 0, 0, 0, 0⟩ : Res).st) ∧ Hid (OwnN w W6.heap.size ga 64 ca (⟨1, [p2], z64, 0, 0, 0, 0⟩ : Res).ce) ∧ Hid (gs ≠ ga) ∧ VB W6 x vx w zCpu ∧ VB W6 y vy w zAr ∧ VB W6 z vz w zEf) (fun x y z a w => ∃ (vx vy vz : Value) (kq : Nat) (gs : Nat) (cs : Nat) (ga : Nat) (ca : Nat), a = (((((((a0.put (some 81) (.slice (some ⟨kq, 0, none⟩) 1 1)).put (some 87) (.tuple #[.agg #[.int .i64 (⟨1, [p2], z64, 0, 0, 0, 0⟩ : Res).pc, .slice (some ⟨gs, 0, none⟩) 1 cs], .agg #[.slice (some ⟨ga, 0, none⟩) 64 ca], .agg #[.int .i64 (⟨1, [p2], z64, 0, 0, 0, 0⟩ : Res).k, .int .i64 (⟨1, [p2], z64, 0, 0, 0, 0⟩ : Res).po, .int .i64 (⟨1, [p2], z64, 0, 0, 0, 0⟩ : Res).nu, .int .i64 (⟨1, [p2], z64, 0, 0, 0, 0⟩ : Res).tr]])).put (some 78) (.tuple #[.agg #[.int .i64 (⟨1, [p2], z64, 0, 0, 0, 0⟩ : Res).pc, .slice (some ⟨gs, 0, none⟩) 1 cs], .agg #[.slice (some ⟨ga, 0, none⟩) 64 ca], .agg #[.int .i64 (⟨1, [p2], z64, 0, 0, 0, 0⟩ : Res).k, .int .i64 (⟨1, [p2], z64, 0, 0, 0, 0⟩ : Res).po, .int .i64 (⟨1, [p2], z64, 0, 0, 0, 0⟩ : Res).nu, .int .i64 (⟨1, [p2], z64, 0, 0, 0, 0⟩ : Res).tr]])).put (some 88) (.agg #[.int .i64 (⟨1, [p2], z64, 0, 0, 0, 0⟩ : Res).pc, .slice (some ⟨gs, 0, none⟩) 1 cs])).put (some 19) vx).put (some 20) vy).put (some 21) vz) ∧ Hid (I.RowR w kq [(17, 0)]) ∧ Hid (OwnN w W6.heap.size gs 1 cs (⟨1, [p2], z64, 0, 0, 0, 0⟩ : Res).st) ∧ Hid (OwnN w W6.heap.size ga 64 ca (⟨1, [p2], z64, 0, 0, 0, 0⟩ : Res).ce) ∧ Hid (gs ≠ ga) ∧ VB W6 x vx w zCpu ∧ VB W6 y vy w zAr ∧ VB W6 z vz w zEf) 5 ?_ ?_ ?_ ?_ ?_ ?_
      · intro x y z; cases x <;> cases y <;> cases z <;> kernel_rfl
      · intro x y z; cases x <;> cases y <;> cases z <;> kernel_rfl
      · intro x y z; cases x <;> cases y <;> cases z <;> kernel_rfl
      · exact fun _ _ _ _ h => h
      · rintro x y z a w hSw ⟨vx, vy, vz, kq, gs, cs, ga, ca, rfl, Hi, Hs, Ha, Hn, bx, by_, bz⟩
        refine ⟨.agg #[.int .i64 (⟨1, [p2], z64, 0, 0, 0, 0⟩ : Res).pc, .slice (some ⟨gs, 0, none⟩) 1 cs], Or.inl ⟨by rw [HA0.out]; rfl, ?_⟩, vx, vy, vz, kq, gs, cs, ga, ca, (by rw [HA0.out]; simp only [Act.put, List.setIfInBounds_toArray, List.set_cons_zero, List.set_cons_succ, List.getElem_toArray, List.getElem_cons_zero, List.getElem_cons_succ]), Hi, Hs, Ha, Hn, bx, by_, bz⟩
        rw [HA0.out]
        simp only [Act.put, List.setIfInBounds_toArray, List.set_cons_zero, List.set_cons_succ]
        intro w hSw; go_simp <;> with_reducible rfl
      refine stageT (i := 11) rfl (by kernel_rfl) (fun x y z => #[true, true, true, true, true, true, true, true, true, true, true, false, false, x, y, z, false, false, false]) (fun x y z => #[true, true, true, true, true, true, true, true, true, true, true, true, false, x, y, z, false, false, false]) (fun x y z a w => ∃ (vx vy vz : Value) (kq : Nat) (gs : Nat) (cs : Nat) (ga : Nat) (ca : Nat), a = (((((((a0.put (some 81) (.slice (some ⟨kq, 0, none⟩) 1 1)).put (some 87) (.tuple #[.agg #[.int .i64 (⟨1, [p2], z64, 0, 0, 0, 0⟩ : Res).pc, .slice (some ⟨gs, 0, none⟩) 1 cs], .agg #[.slice (some ⟨ga, 0, none⟩) 64 ca], .agg #[.int .i64 (⟨1, [p2], z64, 0, 0, 0, 0⟩ : Res).k, .int .i64 (⟨1, [p2], z64, 0, 0, 0, 0⟩ : Res).po, .int .i64 (⟨1, [p2], z64, 0, 0, 0, 0⟩ : Res).nu, .int .i64 (⟨1, [p2], z64, 0, 0, 0, 0⟩ : Res).tr]])).put (some 78) (.tuple #[.agg #[.int .i64 (⟨1, [p2], z64, 0, 0, 0, 0⟩ : Res).pc, .slice (some ⟨gs, 0, none⟩) 1 cs], .agg #[.slice (some ⟨ga, 0, none⟩) 64 ca], .agg #[.int .i64 (⟨1, [p2], z64, 0, 0, 0, 0⟩ : Res).k, .int .i64 (⟨1, [p2], z64, 0, 0, 0, 0⟩ : Res).po, .int .i64 (⟨1, [p2], z64, 0, 0, 0, 0⟩ : Res).nu, .int .i64 (⟨1, [p2], z64, 0, 0, 0, 0⟩ : Res).tr]])).put (some 88) (.agg #[.int .i64 (⟨1, [p2], z64, 0, 0, 0, 0⟩ : Res).pc, .slice (some ⟨gs, 0, none⟩) 1 cs])).put (some 19) vx).put (some 20) vy).put (some 21) vz) ∧ Hid (I.RowR w kq [(17, 0)]) ∧ Hid (OwnN w W6.heap.size gs 1 cs (⟨1, [p2], z64, 0, 0, 0, 0⟩ : Res).st) ∧ Hid (OwnN w W6.heap.size ga 64 ca (⟨1, [p2], z64, 0, 0, 0, 0⟩ : Res).ce) ∧ Hid (gs ≠ ga) ∧ VB W6 x vx w zCpu ∧ VB W6 y vy w zAr ∧ VB W6 z vz w zEf) (fun x y z a w => ∃ (vx vy vz : Value) (kq : Nat) (gs : Nat) (cs : Nat) (ga : Nat) (ca : Nat), a = ((((((((a0.put (some 81) (.slice (some ⟨kq, 0, none⟩) 1 1)).put (some 87) (.tuple #[.agg #[.int .i64 (⟨1, [p2], z64, 0, 0, 0, 0⟩ : Res).pc, .slice (some ⟨gs, 0, none⟩) 1 cs], .agg #[.slice (some ⟨ga, 0, none⟩) 64 ca], .agg #[.int .i64 (⟨1, [p2], z64, 0, 0, 0, 0⟩ : Res).k, .int .i64 (⟨1, [p2], z64, 0, 0, 0, 0⟩ : Res).po, .int .i64 (⟨1, [p2], z64, 0, 0, 0, 0⟩ : Res).nu, .int .i64 (⟨1, [p2], z64, 0, 0, 0, 0⟩ : Res).tr]])).put (some 78) (.tuple #[.agg #[.int .i64 (⟨1, [p2], z64, 0, 0, 0, 0⟩ : Res).pc, .slice (some ⟨gs, 0, none⟩) 1 cs], .agg #[.slice (some ⟨ga, 0, none⟩) 64 ca], .agg #[.int .i64 (⟨1, [p2], z64, 0, 0, 0, 0⟩ : Res).k, .int .i64 (⟨1, [p2], z64, 0, 0, 0, 0⟩ : Res).po, .int .i64 (⟨1, [p2], z64, 0, 0, 0, 0⟩ : Res).nu, .int .i64 (⟨1, [p2], z64, 0, 0, 0, 0⟩ : Res).tr]])).put (some 88) (.agg #[.int .i64 (⟨1, [p2], z64, 0, 0, 0, 0⟩ : Res).pc, .slice (some ⟨gs, 0, none⟩) 1 cs])).put (some 89) (.agg #[.slice (some ⟨ga, 0, none⟩) 64 ca])).put (some 19) vx).put (some 20) vy).put (some 21) vz) ∧ Hid (I.RowR w kq [(17, 0)]) ∧ Hid (OwnN w W6.heap.size gs 1 cs (⟨1, [p2], z64, 0, 0, 0, 0⟩ : Res).st) ∧ Hid (OwnN w W6.heap.size ga 64 ca (⟨1, [p2], z64, 0, 0, 0, 0⟩ : Res).ce) ∧ Hid (gs ≠ ga) ∧ VB W6 x vx w zCpu ∧ VB W6 y vy w zAr ∧ VB W6 z vz w zEf) 4 ?_ ?_ ?_ ?_ ?_ ?_
      · intro x y z; cases x <;> cases y <;> cases z <;> kernel_rfl
      · intro x y z; cases x <;> cases y <;> cases z <;> kernel_rfl
      · intro x y z; cases x <;> cases y <;> cases z <;> kernel_rfl
      · exact fun _ _ _ _ h => h
      · rintro x y z a w hSw ⟨vx, vy, vz, kq, gs, cs, ga, ca, rfl, Hi, Hs, Ha, Hn, bx, by_, bz⟩
        refine ⟨.agg #[.slice (some ⟨ga, 0, none⟩) 64 ca], Or.inl ⟨by rw [HA0.out]; rfl, ?_⟩, vx, vy, vz, kq, gs, cs, ga, ca, (by rw [HA0.out]; simp only [Act.put, List.setIfInBounds_toArray, List.set_cons_zero, List.set_cons_succ, List.getElem_toArray, List.getElem_cons_zero, List.getElem_cons_succ]), Hi, Hs, Ha, Hn, bx, by_, bz⟩
        rw [HA0.out]
        simp only [Act.put, List.setIfInBounds_toArray, List.set_cons_zero, List.set_cons_succ]
        intro w hSw; go_simp <;> with_reducible rfl
      refine stageT (i := 12) rfl (by kernel_rfl) (fun x y z => #[true, true, true, true, true, true, true, true, true, true, true, true, false, x, y, z, false, false, false]) (fun x y z => #[true, true, true, true, true, true, true, true, true, true, true, true, true, x, y, z, false, false, false]) (fun x y z a w => ∃ (vx vy vz : Value) (kq : Nat) (gs : Nat) (cs : Nat) (ga : Nat) (ca : Nat), a = ((((((((a0.put (some 81) (.slice (some ⟨kq, 0, none⟩) 1 1)).put (some 87) (.tuple #[.agg #[.int .i64 (⟨1, [p2], z64, 0, 0, 0, 0⟩ : Res).pc, .slice (some ⟨gs, 0, none⟩) 1 cs], .agg #[.slice (some ⟨ga, 0, none⟩) 64 ca], .agg #[.int .i64 (⟨1, [p2], z64, 0, 0, 0, 0⟩ : Res).k, .int .i64 (⟨1, [p2], z64, 0, 0, 0, 0⟩ : Res).po, .int .i64 (⟨1, [p2], z64, 0, 0, 0, 0⟩ : Res).nu, .int .i64 (⟨1, [p2], z64, 0, 0, 0, 0⟩ : Res).tr]])).put (some 78) (.tuple #[.agg #[.int .i64 (⟨1, [p2], z64, 0, 0, 0, 0⟩ : Res).pc, .slice (some ⟨gs, 0, none⟩) 1 cs], .agg #[.slice (some ⟨ga, 0, none⟩) 64 ca], .agg #[.int .i64 (⟨1, [p2], z64, 0, 0, 0, 0⟩ : Res).k, .int .i64 (⟨1, [p2], z64, 0, 0, 0, 0⟩ : Res).po, .int .i64 (⟨1, [p2], z64, 0, 0, 0, 0⟩ : Res).nu, .int .i64 (⟨1, [p2], z64, 0, 0, 0, 0⟩ : Res).tr]])).put (some 88) (.agg #[.int .i64 (⟨1, [p2], z64, 0, 0, 0, 0⟩ : Res).pc, .slice (some ⟨gs, 0, none⟩) 1 cs])).put (some 89) (.agg #[.slice (some ⟨ga, 0, none⟩) 64 ca])).put (some 19) vx).put (some 20) vy).put (some 21) vz) ∧ Hid (I.RowR w kq [(17, 0)]) ∧ Hid (OwnN w W6.heap.size gs 1 cs (⟨1, [p2], z64, 0, 0, 0, 0⟩ : Res).st) ∧ Hid (OwnN w W6.heap.size ga 64 ca (⟨1, [p2], z64, 0, 0, 0, 0⟩ : Res).ce) ∧ Hid (gs ≠ ga) ∧ VB W6 x vx w zCpu ∧ VB W6 y vy w zAr ∧ VB W6 z vz w zEf) (fun x y z a w => ∃ (vx vy vz : Value) (kq : Nat) (gs : Nat) (cs : Nat) (ga : Nat) (ca : Nat), a = (((((((((a0.put (some 81) (.slice (some ⟨kq, 0, none⟩) 1 1)).put (some 87) (.tuple #[.agg #[.int .i64 (⟨1, [p2], z64, 0, 0, 0, 0⟩ : Res).pc, .slice (some ⟨gs, 0, none⟩) 1 cs], .agg #[.slice (some ⟨ga, 0, none⟩) 64 ca], .agg #[.int .i64 (⟨1, [p2], z64, 0, 0, 0, 0⟩ : Res).k, .int .i64 (⟨1, [p2], z64, 0, 0, 0, 0⟩ : Res).po, .int .i64 (⟨1, [p2], z64, 0, 0, 0, 0⟩ : Res).nu, .int .i64 (⟨1, [p2], z64, 0, 0, 0, 0⟩ : Res).tr]])).put (some 78) (.tuple #[.agg #[.int .i64 (⟨1, [p2], z64, 0, 0, 0, 0⟩ : Res).pc, .slice (some ⟨gs, 0, none⟩) 1 cs], .agg #[.slice (some ⟨ga, 0, none⟩) 64 ca], .agg #[.int .i64 (⟨1, [p2], z64, 0, 0, 0, 0⟩ : Res).k, .int .i64 (⟨1, [p2], z64, 0, 0, 0, 0⟩ : Res).po, .int .i64 (⟨1, [p2], z64, 0, 0, 0, 0⟩ : Res).nu, .int .i64 (⟨1, [p2], z64, 0, 0, 0, 0⟩ : Res).tr]])).put (some 88) (.agg #[.int .i64 (⟨1, [p2], z64, 0, 0, 0, 0⟩ : Res).pc, .slice (some ⟨gs, 0, none⟩) 1 cs])).put (some 89) (.agg #[.slice (some ⟨ga, 0, none⟩) 64 ca])).put (some 90) (.agg #[.int .i64 (⟨1, [p2], z64, 0, 0, 0, 0⟩ : Res).k, .int .i64 (⟨1, [p2], z64, 0, 0, 0, 0⟩ : Res).po, .int .i64 (⟨1, [p2], z64, 0, 0, 0, 0⟩ : Res).nu, .int .i64 (⟨1, [p2], z64, 0, 0, 0, 0⟩ : Res).tr])).put (some 19) vx).put (some 20) vy).put (some 21) vz) ∧ Hid (I.RowR w kq [(17, 0)]) ∧ Hid (OwnN w W6.heap.size gs 1 cs (⟨1, [p2], z64, 0, 0, 0, 0⟩ : Res).st) ∧ Hid (OwnN w W6.heap.size ga 64 ca (⟨1, [p2], z64, 0, 0, 0, 0⟩ : Res).ce) ∧ Hid (gs ≠ ga) ∧ VB W6 x vx w zCpu ∧ VB W6 y vy w zAr ∧ VB W6 z vz w zEf) 3 ?_ ?_ ?_ ?_ ?_ ?_
      · intro x y z; cases x <;> cases y <;> cases z <;> kernel_rfl
      · intro x y z; cases x <;> cases y <;> cases z <;> kernel_rfl
      · intro x y z; cases x <;> cases y <;> cases z <;> kernel_rfl
      · exact fun _ _ _ _ h => h
      · rintro x y z a w hSw ⟨vx, vy, vz, kq, gs, cs, ga, ca, rfl, Hi, Hs, Ha, Hn, bx, by_, bz⟩
        refine ⟨.agg #[.int .i64 (⟨1, [p2], z64, 0, 0, 0, 0⟩ : Res).k, .int .i64 (⟨1, [p2], z64, 0, 0, 0, 0⟩ : Res).po, .int .i64 (⟨1, [p2], z64, 0, 0, 0, 0⟩ : Res).nu, .int .i64 (⟨1, [p2], z64, 0, 0, 0, 0⟩ : Res).tr], Or.inl ⟨by rw [HA0.out]; rfl, ?_⟩, vx, vy, vz, kq, gs, cs, ga, ca, (by rw [HA0.out]; simp only [Act.put, List.setIfInBounds_toArray, List.set_cons_zero, List.set_cons_succ, List.getElem_toArray, List.getElem_cons_zero, List.getElem_cons_succ]), Hi, Hs, Ha, Hn, bx, by_, bz⟩
        rw [HA0.out]
        simp only [Act.put, List.setIfInBounds_toArray, List.set_cons_zero, List.set_cons_succ]
        intro w hSw; go_simp <;> with_reducible rfl
      refine stage3e (i1 := 13) (i2 := 14) (i3 := 15) (fun x y z => #[true, true, true, true, true, true, true, true, true, true, true, true, true, x, y, z, false, false, false]) (fun x y z a w => ∃ (vx vy vz : Value) (kq : Nat) (gs : Nat) (cs : Nat) (ga : Nat) (ca : Nat), a = (((((((((a0.put (some 81) (.slice (some ⟨kq, 0, none⟩) 1 1)).put (some 87) (.tuple #[.agg #[.int .i64 (⟨1, [p2], z64, 0, 0, 0, 0⟩ : Res).pc, .slice (some ⟨gs, 0, none⟩) 1 cs], .agg #[.slice (some ⟨ga, 0, none⟩) 64 ca], .agg #[.int .i64 (⟨1, [p2], z64, 0, 0, 0, 0⟩ : Res).k, .int .i64 (⟨1, [p2], z64, 0, 0, 0, 0⟩ : Res).po, .int .i64 (⟨1, [p2], z64, 0, 0, 0, 0⟩ : Res).nu, .int .i64 (⟨1, [p2], z64, 0, 0, 0, 0⟩ : Res).tr]])).put (some 78) (.tuple #[.agg #[.int .i64 (⟨1, [p2], z64, 0, 0, 0, 0⟩ : Res).pc, .slice (some ⟨gs, 0, none⟩) 1 cs], .agg #[.slice (some ⟨ga, 0, none⟩) 64 ca], .agg #[.int .i64 (⟨1, [p2], z64, 0, 0, 0, 0⟩ : Res).k, .int .i64 (⟨1, [p2], z64, 0, 0, 0, 0⟩ : Res).po, .int .i64 (⟨1, [p2], z64, 0, 0, 0, 0⟩ : Res).nu, .int .i64 (⟨1, [p2], z64, 0, 0, 0, 0⟩ : Res).tr]])).put (some 88) (.agg #[.int .i64 (⟨1, [p2], z64, 0, 0, 0, 0⟩ : Res).pc, .slice (some ⟨gs, 0, none⟩) 1 cs])).put (some 89) (.agg #[.slice (some ⟨ga, 0, none⟩) 64 ca])).put (some 90) (.agg #[.int .i64 (⟨1, [p2], z64, 0, 0, 0, 0⟩ : Res).k, .int .i64 (⟨1, [p2], z64, 0, 0, 0, 0⟩ : Res).po, .int .i64 (⟨1, [p2], z64, 0, 0, 0, 0⟩ : Res).nu, .int .i64 (⟨1, [p2], z64, 0, 0, 0, 0⟩ : Res).tr])).put (some 19) vx).put (some 20) vy).put (some 21) vz) ∧ Hid (I.RowR w kq [(17, 0)]) ∧ Hid (OwnN w W6.heap.size gs 1 cs (⟨1, [p2], z64, 0, 0, 0, 0⟩ : Res).st) ∧ Hid (OwnN w W6.heap.size ga 64 ca (⟨1, [p2], z64, 0, 0, 0, 0⟩ : Res).ce) ∧ Hid (gs ≠ ga) ∧ VB W6 x vx w zCpu ∧ VB W6 y vy w zAr ∧ VB W6 z vz w zEf) 3 ?_ ?_ ?_ ?_ ?_ ?_ ?_ ?_ ?_
      · intro x y z hp i hi
        cases x <;> cases y <;> cases z
        · have e_ := mem_kernel (rs := [13, 14, 15]) (by kernel_rfl) hi; (first | (simp at e_ ⊢; done) | (simp at e_ ⊢; omega))
        · have e_ := mem_kernel (rs := [13, 14]) (by kernel_rfl) hi; (first | (simp at e_ ⊢; done) | (simp at e_ ⊢; omega))
        · have e_ := mem_kernel (rs := [13, 15]) (by kernel_rfl) hi; (first | (simp at e_ ⊢; done) | (simp at e_ ⊢; omega))
        · have e_ := mem_kernel (rs := [13]) (by kernel_rfl) hi; (first | (simp at e_ ⊢; done) | (simp at e_ ⊢; omega))
        · have e_ := mem_kernel (rs := [14, 15]) (by kernel_rfl) hi; (first | (simp at e_ ⊢; done) | (simp at e_ ⊢; omega))
        · have e_ := mem_kernel (rs := [14]) (by kernel_rfl) hi; (first | (simp at e_ ⊢; done) | (simp at e_ ⊢; omega))
        · have e_ := mem_kernel (rs := [15]) (by kernel_rfl) hi; (first | (simp at e_ ⊢; done) | (simp at e_ ⊢; omega))
        · simp at hp
      · intro x y z
        cases x <;> cases y <;> cases z
        · exact ne_kernel (rs := [13, 14, 15]) (by kernel_rfl) (by simp)
        · exact ne_kernel (rs := [13, 14]) (by kernel_rfl) (by simp)
        · exact ne_kernel (rs := [13, 15]) (by kernel_rfl) (by simp)
        · exact ne_kernel (rs := [13]) (by kernel_rfl) (by simp)
        · exact ne_kernel (rs := [14, 15]) (by kernel_rfl) (by simp)
        · exact ne_kernel (rs := [14]) (by kernel_rfl) (by simp)
        · exact ne_kernel (rs := [15]) (by kernel_rfl) (by simp)
        · exact ne_kernel (rs := [16]) (by kernel_rfl) (by simp)
      · intro x y; cases x <;> cases y <;> kernel_rfl
      · intro x y; cases x <;> cases y <;> kernel_rfl
      · intro x y; cases x <;> cases y <;> kernel_rfl
      · rintro y z a w hSw ⟨vx, vy, vz, kq, gs, cs, ga, ca, rfl, Hi, Hs, Ha, Hn, bx, by_, bz⟩
        refine wpOp_step (i := 13) rfl (fun K hK => ?_)
        have HK : Shut _ := hK
        clear hK
        rw [HA0.out]
        simp only [Act.put, List.setIfInBounds_toArray, List.set_cons_zero, List.set_cons_succ]
        go_simp
        exact HK.out _ _ ⟨bel_on (Nat.le_refl _) hSw (al1_b w zCpu), _, vy, vz, kq, gs, cs, ga, ca, (by rw [HA0.out]; simp only [Act.put, List.setIfInBounds_toArray, List.set_cons_zero, List.set_cons_succ]), I.RowR.on Hi.out (al1_b w zCpu), Hs.out.on (al1_b w zCpu), Ha.out.on (al1_b w zCpu), Hn.out, VB.new hSw, by_.on (al1_b w zCpu), bz.on (al1_b w zCpu)⟩
      · rintro x z a w hSw ⟨vx, vy, vz, kq, gs, cs, ga, ca, rfl, Hi, Hs, Ha, Hn, bx, by_, bz⟩
        refine wpOp_step (i := 14) rfl (fun K hK => ?_)
        have HK : Shut _ := hK
        clear hK
        rw [HA0.out]
        simp only [Act.put, List.setIfInBounds_toArray, List.set_cons_zero, List.set_cons_succ]
        go_simp
        exact HK.out _ _ ⟨bel_on (Nat.le_refl _) hSw (al1_b w zAr), vx, _, vz, kq, gs, cs, ga, ca, (by rw [HA0.out]; simp only [Act.put, List.setIfInBounds_toArray, List.set_cons_zero, List.set_cons_succ]), I.RowR.on Hi.out (al1_b w zAr), Hs.out.on (al1_b w zAr), Ha.out.on (al1_b w zAr), Hn.out, bx.on (al1_b w zAr), VB.new hSw, bz.on (al1_b w zAr)⟩
      · rintro x y a w hSw ⟨vx, vy, vz, kq, gs, cs, ga, ca, rfl, Hi, Hs, Ha, Hn, bx, by_, bz⟩
        refine wpOp_step (i := 15) rfl (fun K hK => ?_)
        have HK : Shut _ := hK
        clear hK
        rw [HA0.out]
        simp only [Act.put, List.setIfInBounds_toArray, List.set_cons_zero, List.set_cons_succ]
        go_simp
        exact HK.out _ _ ⟨bel_on (Nat.le_refl _) hSw (al1_b w zEf), vx, vy, _, kq, gs, cs, ga, ca, (by rw [HA0.out]; simp only [Act.put, List.setIfInBounds_toArray, List.set_cons_zero, List.set_cons_succ]), I.RowR.on Hi.out (al1_b w zEf), Hs.out.on (al1_b w zEf), Ha.out.on (al1_b w zEf), Hn.out, bx.on (al1_b w zEf), by_.on (al1_b w zEf), VB.new hSw⟩
      · rintro f a w hf hSw ⟨vx, vy, vz, kq, gs, cs, ga, ca, rfl, Hi, Hs, Ha, Hn, bx, by_, bz⟩
        obtain ⟨f2, rfl⟩ : ∃ f2, f = f2 + 3 := ⟨f - 3, by omega⟩
        obtain ⟨b1, rfl, hz1, l1⟩ := bx rfl
        obtain ⟨b2, rfl, hz2, l2⟩ := by_ rfl
        obtain ⟨b3, rfl, hz3, l3⟩ := bz rfl
        have kz1 := row2_cells hz1
        have kz2 := row1_cells hz2
        have kz3 := row4_cells hz3
        have m12 := row_ne hz1 hz2 (by intro e; cases e)
        have m13 := row_ne hz1 hz3 (by intro e; cases e)
        have m23 := row_ne hz2 hz3 (by intro e; cases e)
        have m21 := m12.symm
        have m31 := m13.symm
        have m32 := m23.symm
        rw [HA0.out]
        simp only [Act.put, List.setIfInBounds_toArray, List.set_cons_zero, List.set_cons_succ]
        refine wpAnyH_ready (rs := [16]) (by kernel_rfl) (by simp) ?_
        refine AllReadyH.cons rfl (fun K hK => ?_) AllReadyH.nil
        go_simp
        refine hK.out _ _ ?_ (fun hHeld2 => ?_)
        · exact (Below.setCell (Below.setCell hSw l1 _) l1 _)
        have hT1 := hHeld2
        clear hHeld2 hK K
        refine wpAnyH_ready (rs := [17]) (by kernel_rfl) (by simp) ?_
        refine AllReadyH.cons rfl (fun K hK => ?_) AllReadyH.nil
        go_simp
        refine hK.out _ _ ?_ (fun hHeld2 => ?_)
        · exact (Below.setCell hT1 l2 _)
        have hT2 := hHeld2
        clear hHeld2 hK K
        refine wpAnyH_ready (rs := [18]) (by kernel_rfl) (by simp) ?_
        refine AllReadyH.cons rfl (fun K hK => ?_) AllReadyH.nil
        go_simp
        refine hK.out _ _ ?_ (fun hHeld2 => ?_)
        · exact (Below.setCell (Below.setCell (Below.setCell (Below.setCell hT2 l3 _) l3 _) l3 _) l3 _)
        have hT3 := hHeld2
        clear hHeld2 hK K
        refine wpAnyH_done (by kernel_rfl) ?_ _
        (try go_wp2_with fail)
        go_meet
        refine ⟨b1, b2, b3, gs, cs, ga, ca, rfl, rfl, rfl, hid ?_⟩
        with_reducible exact out_stores (R := ⟨1, [p2], z64, 0, 0, 0, 0⟩) hz1 hz2 hz3 Hs.out Ha.out Hn.out l1 l2 l3 hSw
  case rest =>
  rename World => w7
  obtain ⟨b1_7, b2_7, b3_7, gs7, cs7, ga7, ca7, rfl, rfl, rfl, HB7⟩ := hcut
  have Q7 : Hid (w7.cell? ⟨gs7, 0, none⟩ = some (.int .i64 p2)) := (own_at HB7.out.2.2.2.1 (j := 0) (by simp)).1
  have k7x := row2_cells HB7.out.1
  clear Q60 Q61 Q62 Q63 HZ6
  have N_92 : Hid ((W6).heap.size ≤ (w7).heap.size) := (HB7.out.bel).size
  have FW_93 : Hid (Below w0.heap.size w0 (w7)) := bel_on (Nat.le_refl _) FW_80.out (HB7.out.bel)
  have FP_94 : Hid (Below w1.heap.size w1 (w7)) := bel_on (Nat.le_refl _) FP_81.out (HB7.out.bel)
  have FZ_95 : Hid (RowAt (w7) g2 z64) := RowAt.on FZ_82.out (HB7.out.bel)
  have FA_96 : Hid ((w7).heap[w2.heap.size]? = some (.cells #[.slice (some ⟨g2, 0, none⟩) 64 64] 38)) := row_on FA_83.out (HB7.out.bel)
  have FG_97 : Hid ((w7).heap[w2.heap.size + 1]? = some (.cells #[.int .i64 0, .int .i64 4] 46)) := row_on FG_84.out (HB7.out.bel)
  have FE_98 : Hid ((w7).heap[w3.heap.size + 1 + 1]? = some (.cells #[.int .i64 0, .int .i64 0, .int .i64 0, .int .i64 5] 40)) := row_on FE_85.out (HB7.out.bel)
  have FE4_99 : Hid ((w7).heap[b3_4]? = some (.cells #[.int .i64 0, .int .i64 0, .int .i64 0, .int .i64 6] 40)) := row_on FE4_86.out (HB7.out.bel)
  have FE5_100 : Hid ((w7).heap[b3_5]? = some (.cells #[.int .i64 0, .int .i64 0, .int .i64 0, .int .i64 1] 40)) := row_on FE5_87.out (HB7.out.bel)
  have FE6_101 : Hid ((w7).heap[w6.heap.size + 1 + 1]? = some (.cells #[.int .i64 0, .int .i64 0, .int .i64 0, .int .i64 4] 40)) := row_on FE6_91.out (HB7.out.bel)
  clear FW_80 FP_81 FZ_82 FA_83 FG_84 FE_85 FE4_86 FE5_87 FE6_91
  have FE7_102 : Hid ((w7).heap[b3_7]? = some (.cells #[.int .i64 0, .int .i64 0, .int .i64 0, .int .i64 0] 40)) := HB7.out.2.2.1
  clear HB7
  have QP : w7.cell? ⟨gp, 2, none⟩ = some (.int .i64 p2) := cell_on HP.out.2.2 FP_94.out
  have q7 := Q7.out
  have kE := row4_cells FE_98.out
  have kE4 := row4_cells FE4_99.out
  have kE5 := row4_cells FE5_100.out
  have kE6 := row4_cells FE6_101.out
  have kE7 := row4_cells FE7_102.out
  go_wp2_with fail
  go_quiet (fail)
  go_wp2
  go_ret
  exact ⟨rfl, below_drewN FW_93.out _⟩

theorem walk (a0 : Option Addr) (len0 cap0 : Nat) (z0 : List Int) (w : World) (w0 : D.IsRow .u8 w a0 len0 cap0 z0) :
    Calls Try.prog 9 #[.slice a0 len0 cap0] w fun e w' => e = .returned (.bool true) ∧ Below w.heap.size w w' := by
  have hlen : len0 ≤ 9223372036854775807 := by
    rcases w0 with ⟨_, h, _⟩ | ⟨x, _, h1, h2, _⟩
    · omega
    · unfold maxLen at h2; omega
  by_cases hb : len0 ≤ 1048576
  · exact traps_in a0 len0 cap0 hb w (D.code_of_row w0 hb)
  · have hb' : 1048576 < len0 := by omega
    go_enter Try.func9, Try.ntmps9
    go_wp2_with fail
    refine (D.big5 a0 len0 cap0 hlen _).mono ?_
    rintro e w1 ⟨rfl, rfl⟩
    rw [decide_eq_true (by omega)]
    go_wp2
    go_ret
    exact ⟨rfl, Below.refl _ _⟩

set_option maxRecDepth 100000 in
theorem lifted (os : Os) (started : os.Started) (H : Type) (enc : TypeId × Value → H) :
    ReturnsInHanded {} Try.checked os 9 .any (Rows.fnTrapsSpec.pre6 enc Try.prog Try.f9 Rows.fnTrapsRow.domain false) (Rows.fnTrapsSpec.post enc Try.prog Try.f9 false true false false) := by
  refine returnsInHanded_of_change (C := Try.checked) own started (by kernel_rfl) Try.func9
    (ChangeSpec.witness6 (enc := enc) (C := Try.checked) false ⟨#[], #[.slice none 0 0], []⟩ 8 (by kernel_rfl) (by kernel_rfl) (by kernel_rfl) (by kernel_rfl)) ?_
  intro W base args ds gs before hval0 hW hcnd _
  have hval : ∀ (j : Nat) t v, Try.f9.params[j]? = some t → args[j]? = some v → Value.okWide Try.prog W .any base t v := hval0
  have hW' := hW
  obtain ⟨p, q, hA0, hV, rfl, hfz, hnd⟩ := hW
  have hA : DataW.TrodAll enc Try.prog W 0 (fun _ => true) true Try.f9.params.toList args.toList ds p := hA0
  rw [Try.params9] at hA hval
  obtain ⟨v0, vs0, d0, ds0, p0, q0, hargs, rfl, rfl, h0, r0⟩ := trodAll_cons hA
  obtain ⟨rfl, rfl, rfl⟩ := trodAll_nil r0
  obtain rfl : args = #[v0] := by cases args; simp_all
  obtain ⟨rfl, rfl⟩ := trodVars_none hV
  have k0 := h0
  have lt0 : ∀ x ∈ p0, x.block < W.heap.size := by obtain ⟨m, hm⟩ := k0; exact DataW.trod_lt m _ _ _ hm
  obtain ⟨a0, len0, cap0, z0, rfl, w0⟩ := D.open_code (hval 0 58 v0 rfl rfl) h0
  clear hA0 hval0
  refine (walk a0 len0 cap0 z0 W w0).mono fun e W' ⟨he, bel⟩ => ?_
  subst he
  exact ⟨_, rfl, _, _, _, [], _, [], hW', trodAll_mk1 (shut_bool Try.underlying4 _), (trodAll_cons_mk (Below.trod laidOut (by kernel_rfl) (of_decide_eq_true (by kernel_rfl)) k0 bel lt0) trodAll_mk0), rfl, bel.frame _, fun h => by cases h⟩

theorem over : Rows.fnTrapsRow.holds Try.pinned (OpenSpec.ofChange Rows.fnTrapsSpec) :=
  OpenClaim.holds_of_wide 9 Try.f9 rfl rfl rfl rfl rfl rfl rfl ⟨rfl, rfl, rfl, rfl, rfl⟩ rfl rfl rfl rfl rfl (by kernel_rfl) Try.func9 (by kernel_rfl)
    (of_decide_eq_true (by kernel_rfl)) (by unfold Func.isWrapper; first | (rw [if_pos (by decide +kernel)]; kernel_rfl) | (rw [if_neg (by decide +kernel)]; exact ⟨rfl, rfl⟩))
    (fun os started H enc _ => lifted os started H enc)

end Go.Proofs.Ytbacmkibilhkgaa.fnTraps
namespace Go.Proofs.Ytbacmkibilhkgaa
theorem fnTraps_holds : Rows.FnTrapsSaid :=
  fnTraps.over
#print axioms fnTraps_holds
end Go.Proofs.Ytbacmkibilhkgaa
