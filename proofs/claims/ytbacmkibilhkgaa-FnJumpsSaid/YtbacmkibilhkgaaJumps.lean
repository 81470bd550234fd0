/-
  Proved: for every text of bytes the call of FnJumps returns true: a jump goes where it says, one on 0 just when there is a 0 (texts of more than 1048576 bytes the law itself lets by). No conditions.
-/
import Derived.Test.YtbacmkibilhkgaaRows
import Derived.Test.YtbacmkibilhkgaaAl
import Derived.OpenShut
import Derived.ShutString
import Derived.ChangeOld
import Derived.Below
import Derived.OpenVars
import Derived.Deep.DeepHandedRow
namespace Go.Proofs.Ytbacmkibilhkgaa.fnJumps
open Go.ChangeShapes Go.WideShapes Go.ChangeAt Go.RowKit Go.PlainAid
open Go.ChangeMaps (open_string shut_string)
set_option linter.unusedVariables false

theorem own : ownKnob Try.prog.godebug = none := by kernel_rfl
theorem laidOut : laidOutB Try.prog = true := by kernel_rfl

set_option maxRecDepth 100000 in
set_option maxHeartbeats 2000000 in
theorem jumps_in (a0 : Option Addr) (len0 cap0 : Nat) (hb : len0 ≤ 1048576) (w : World) (hcode : D.CodeOk w w.heap.size a0 len0) :
    Calls Try.prog 10 #[.slice a0 len0 cap0] w fun e w' => e = .returned (.bool true) ∧ Below w.heap.size w w' := by
  go_enter Try.func10, Try.ntmps10
  go_wp2_with fail
  refine (D.big5 a0 len0 cap0 (by omega) _).mono ?_
  rintro e w0 ⟨rfl, rfl⟩
  rw [decide_eq_false (by omega)]
  go_wp2_with fail
  refine (D.places7 w0.heap.size a0 len0 cap0 _ hcode (Nat.le_refl _)).mono ?_
  rintro e w1 ⟨gp, cpp, p0, p1, p2, p3, rfl, h0, h1, h2, h3, hgp, c0, c1, c2, c3, hlp, hb1⟩
  have FW_1 : Hid (Below w0.heap.size w0 (w0)) := Below.refl _ _
  have N_2 : Hid ((w0).heap.size ≤ (w1).heap.size) := (hb1).size
  have FW_3 : Hid (Below w0.heap.size w0 (w1)) := bel_on (Nat.le_refl _) FW_1.out (hb1)
  clear FW_1 hb1 hgp
  obtain ⟨T, hT⟩ : ∃ T, p0 % 50 = T := ⟨_, rfl⟩
  obtain ⟨n, hn⟩ : ∃ n, p1 % 3 = n := ⟨_, rfl⟩
  have hT2 : p0.tmod 50 = T := by rw [Int.tmod_eq_emod_of_nonneg h0.1]; exact hT
  have hn2 : p1.tmod 3 = n := by rw [Int.tmod_eq_emod_of_nonneg h1.1]; exact hn
  have hT0 : 0 ≤ T ∧ T < 50 := by omega
  have hn0 : 0 ≤ n ∧ n < 3 := by omega
  clear h2 h3 c2 c3
  by_cases hz : n = 0
  · subst hz
    go_wp2_with fail
    refine (newI _).mono ?_
    rintro e w2 ⟨g2, rfl, hg2, hrow2, hb2⟩
    have N_4 : Hid ((w1).heap.size ≤ (w2).heap.size) := (hb2).size
    have FW_5 : Hid (Below w0.heap.size w0 (w2)) := bel_on (Nat.le_refl _) FW_3.out (hb2)
    clear FW_3
    have N_6 : Hid ((w1).heap.size ≤ g2 ∧ g2 < w2.heap.size) := ⟨hg2, hrow2.lt⟩
    have FZ_7 : Hid (RowAt (w2) g2 z64) := hrow2
    clear hg2 hrow2 hb2
    clear c0 c1 hT hn hT2 hn2 h0 h1
    have N_8 : Hid ((w2).heap.size ≤ ((((w2.alloc (.cells #[.slice (some ⟨g2, 0, none⟩) 64 64] 38)).alloc (.cells #[.int .i64 0, .int .i64 4] 46)).alloc (.cells #[.int .i64 9, .int .i64 T] 65))).heap.size) := (al3_b w2 (.cells #[.slice (some ⟨g2, 0, none⟩) 64 64] 38) (.cells #[.int .i64 0, .int .i64 4] 46) (.cells #[.int .i64 9, .int .i64 T] 65)).size
    have FW_9 : Hid (Below w0.heap.size w0 ((((w2.alloc (.cells #[.slice (some ⟨g2, 0, none⟩) 64 64] 38)).alloc (.cells #[.int .i64 0, .int .i64 4] 46)).alloc (.cells #[.int .i64 9, .int .i64 T] 65)))) := bel_on (Nat.le_refl _) FW_5.out (al3_b w2 (.cells #[.slice (some ⟨g2, 0, none⟩) 64 64] 38) (.cells #[.int .i64 0, .int .i64 4] 46) (.cells #[.int .i64 9, .int .i64 T] 65))
    have FZ_10 : Hid (RowAt ((((w2.alloc (.cells #[.slice (some ⟨g2, 0, none⟩) 64 64] 38)).alloc (.cells #[.int .i64 0, .int .i64 4] 46)).alloc (.cells #[.int .i64 9, .int .i64 T] 65))) g2 z64) := RowAt.on FZ_7.out (al3_b w2 (.cells #[.slice (some ⟨g2, 0, none⟩) 64 64] 38) (.cells #[.int .i64 0, .int .i64 4] 46) (.cells #[.int .i64 9, .int .i64 T] 65))
    clear FW_5 FZ_7
    have N_11 : Hid ((((w2.alloc (.cells #[.slice (some ⟨g2, 0, none⟩) 64 64] 38)).alloc (.cells #[.int .i64 0, .int .i64 4] 46)).alloc (.cells #[.int .i64 9, .int .i64 T] 65)).heap.size = w2.heap.size + 3) := al3_s w2 (.cells #[.slice (some ⟨g2, 0, none⟩) 64 64] 38) (.cells #[.int .i64 0, .int .i64 4] 46) (.cells #[.int .i64 9, .int .i64 T] 65)
    have FA_12 : Hid (((((w2.alloc (.cells #[.slice (some ⟨g2, 0, none⟩) 64 64] 38)).alloc (.cells #[.int .i64 0, .int .i64 4] 46)).alloc (.cells #[.int .i64 9, .int .i64 T] 65))).heap[w2.heap.size]? = some (.cells #[.slice (some ⟨g2, 0, none⟩) 64 64] 38)) := al3_1 w2 (.cells #[.slice (some ⟨g2, 0, none⟩) 64 64] 38) (.cells #[.int .i64 0, .int .i64 4] 46) (.cells #[.int .i64 9, .int .i64 T] 65)
    have FG_13 : Hid (((((w2.alloc (.cells #[.slice (some ⟨g2, 0, none⟩) 64 64] 38)).alloc (.cells #[.int .i64 0, .int .i64 4] 46)).alloc (.cells #[.int .i64 9, .int .i64 T] 65))).heap[w2.heap.size + 1]? = some (.cells #[.int .i64 0, .int .i64 4] 46)) := al3_2 w2 (.cells #[.slice (some ⟨g2, 0, none⟩) 64 64] 38) (.cells #[.int .i64 0, .int .i64 4] 46) (.cells #[.int .i64 9, .int .i64 T] 65)
    have FI_14 : Hid (((((w2.alloc (.cells #[.slice (some ⟨g2, 0, none⟩) 64 64] 38)).alloc (.cells #[.int .i64 0, .int .i64 4] 46)).alloc (.cells #[.int .i64 9, .int .i64 T] 65))).heap[w2.heap.size + 1 + 1]? = some (.cells #[.int .i64 9, .int .i64 T] 65)) := al3_3 w2 (.cells #[.slice (some ⟨g2, 0, none⟩) 64 64] 38) (.cells #[.int .i64 0, .int .i64 4] 46) (.cells #[.int .i64 9, .int .i64 T] 65)
    have kA := row1_cells FA_12.out
    have kG := row2_cells FG_13.out
    go_wp2_with fail
    clear kA kG
    refine (stepI none (0) [] 0 0 (some ⟨w2.heap.size + 1 + 1, 0, none⟩) [(9, T)] 1 1 (some ⟨g2, 0, none⟩) z64 64 64 (0) (4) (0) true ⟨T, [], z64, 0, 0, 0, 0⟩ 0 rfl (by decide) rfl (by decide) (by rfl) (by decide) ⟨fun _ => ⟨cpuR_nil 0 (by decide) (by decide), codeR_one 9 T ⟨by decide, by decide⟩ ⟨by omega, by omega⟩, by decide⟩, fun _ => rfl⟩ (show okR (min T 60) [] z64 = _ by rw [Int.min_eq_left (by omega)]; rfl) rfl _ (Rd.nil _ _) (I.RowR.rd FI_14.out) (RowAt.rd FZ_10.out)).mono ?_
    rintro e w3 ⟨gs3, cs3, ga3, ca3, rfl, hs3, ha3, hne3, hb3⟩
    have N_15 : Hid (((((w2.alloc (.cells #[.slice (some ⟨g2, 0, none⟩) 64 64] 38)).alloc (.cells #[.int .i64 0, .int .i64 4] 46)).alloc (.cells #[.int .i64 9, .int .i64 T] 65))).heap.size ≤ (w3).heap.size) := (hb3).size
    have FW_16 : Hid (Below w0.heap.size w0 (w3)) := bel_on (Nat.le_refl _) FW_9.out (hb3)
    have FZ_17 : Hid (RowAt (w3) g2 z64) := RowAt.on FZ_10.out (hb3)
    have FA_18 : Hid ((w3).heap[w2.heap.size]? = some (.cells #[.slice (some ⟨g2, 0, none⟩) 64 64] 38)) := row_on FA_12.out (hb3)
    have FG_19 : Hid ((w3).heap[w2.heap.size + 1]? = some (.cells #[.int .i64 0, .int .i64 4] 46)) := row_on FG_13.out (hb3)
    have FI_20 : Hid ((w3).heap[w2.heap.size + 1 + 1]? = some (.cells #[.int .i64 9, .int .i64 T] 65)) := row_on FI_14.out (hb3)
    clear FW_9 FZ_10 FA_12 FG_13 FI_14
    have N_21 : Hid (((((w2.alloc (.cells #[.slice (some ⟨g2, 0, none⟩) 64 64] 38)).alloc (.cells #[.int .i64 0, .int .i64 4] 46)).alloc (.cells #[.int .i64 9, .int .i64 T] 65))).heap.size ≤ gs3 ∧ gs3 < w3.heap.size ∧ ((((w2.alloc (.cells #[.slice (some ⟨g2, 0, none⟩) 64 64] 38)).alloc (.cells #[.int .i64 0, .int .i64 4] 46)).alloc (.cells #[.int .i64 9, .int .i64 T] 65))).heap.size ≤ ga3 ∧ ga3 < w3.heap.size) := ⟨hs3.ge, hs3.lt, ha3.ge, ha3.lt⟩
    clear FI_20
    clear hs3 ha3 hne3 hb3
    have N_22 : Hid ((w3).heap.size ≤ ((((((w3.alloc (.cells #[.int .i64 T, .slice (some ⟨gs3, 0, none⟩) 0 cs3] 27)).alloc (.cells #[.slice (some ⟨ga3, 0, none⟩) 64 ca3] 38)).alloc (.cells #[.int .i64 0, .int .i64 0, .int .i64 0, .int .i64 0] 40)).alloc (.cells #[.int .i64 0] 3)).alloc (.cells #[.int .i64 10, .int .i64 T] 65))).heap.size) := (al5_b w3 (.cells #[.int .i64 T, .slice (some ⟨gs3, 0, none⟩) 0 cs3] 27) (.cells #[.slice (some ⟨ga3, 0, none⟩) 64 ca3] 38) (.cells #[.int .i64 0, .int .i64 0, .int .i64 0, .int .i64 0] 40) (.cells #[.int .i64 0] 3) (.cells #[.int .i64 10, .int .i64 T] 65)).size
    have FW_23 : Hid (Below w0.heap.size w0 ((((((w3.alloc (.cells #[.int .i64 T, .slice (some ⟨gs3, 0, none⟩) 0 cs3] 27)).alloc (.cells #[.slice (some ⟨ga3, 0, none⟩) 64 ca3] 38)).alloc (.cells #[.int .i64 0, .int .i64 0, .int .i64 0, .int .i64 0] 40)).alloc (.cells #[.int .i64 0] 3)).alloc (.cells #[.int .i64 10, .int .i64 T] 65)))) := bel_on (Nat.le_refl _) FW_16.out (al5_b w3 (.cells #[.int .i64 T, .slice (some ⟨gs3, 0, none⟩) 0 cs3] 27) (.cells #[.slice (some ⟨ga3, 0, none⟩) 64 ca3] 38) (.cells #[.int .i64 0, .int .i64 0, .int .i64 0, .int .i64 0] 40) (.cells #[.int .i64 0] 3) (.cells #[.int .i64 10, .int .i64 T] 65))
    have FZ_24 : Hid (RowAt ((((((w3.alloc (.cells #[.int .i64 T, .slice (some ⟨gs3, 0, none⟩) 0 cs3] 27)).alloc (.cells #[.slice (some ⟨ga3, 0, none⟩) 64 ca3] 38)).alloc (.cells #[.int .i64 0, .int .i64 0, .int .i64 0, .int .i64 0] 40)).alloc (.cells #[.int .i64 0] 3)).alloc (.cells #[.int .i64 10, .int .i64 T] 65))) g2 z64) := RowAt.on FZ_17.out (al5_b w3 (.cells #[.int .i64 T, .slice (some ⟨gs3, 0, none⟩) 0 cs3] 27) (.cells #[.slice (some ⟨ga3, 0, none⟩) 64 ca3] 38) (.cells #[.int .i64 0, .int .i64 0, .int .i64 0, .int .i64 0] 40) (.cells #[.int .i64 0] 3) (.cells #[.int .i64 10, .int .i64 T] 65))
    have FA_25 : Hid (((((((w3.alloc (.cells #[.int .i64 T, .slice (some ⟨gs3, 0, none⟩) 0 cs3] 27)).alloc (.cells #[.slice (some ⟨ga3, 0, none⟩) 64 ca3] 38)).alloc (.cells #[.int .i64 0, .int .i64 0, .int .i64 0, .int .i64 0] 40)).alloc (.cells #[.int .i64 0] 3)).alloc (.cells #[.int .i64 10, .int .i64 T] 65))).heap[w2.heap.size]? = some (.cells #[.slice (some ⟨g2, 0, none⟩) 64 64] 38)) := row_on FA_18.out (al5_b w3 (.cells #[.int .i64 T, .slice (some ⟨gs3, 0, none⟩) 0 cs3] 27) (.cells #[.slice (some ⟨ga3, 0, none⟩) 64 ca3] 38) (.cells #[.int .i64 0, .int .i64 0, .int .i64 0, .int .i64 0] 40) (.cells #[.int .i64 0] 3) (.cells #[.int .i64 10, .int .i64 T] 65))
    have FG_26 : Hid (((((((w3.alloc (.cells #[.int .i64 T, .slice (some ⟨gs3, 0, none⟩) 0 cs3] 27)).alloc (.cells #[.slice (some ⟨ga3, 0, none⟩) 64 ca3] 38)).alloc (.cells #[.int .i64 0, .int .i64 0, .int .i64 0, .int .i64 0] 40)).alloc (.cells #[.int .i64 0] 3)).alloc (.cells #[.int .i64 10, .int .i64 T] 65))).heap[w2.heap.size + 1]? = some (.cells #[.int .i64 0, .int .i64 4] 46)) := row_on FG_19.out (al5_b w3 (.cells #[.int .i64 T, .slice (some ⟨gs3, 0, none⟩) 0 cs3] 27) (.cells #[.slice (some ⟨ga3, 0, none⟩) 64 ca3] 38) (.cells #[.int .i64 0, .int .i64 0, .int .i64 0, .int .i64 0] 40) (.cells #[.int .i64 0] 3) (.cells #[.int .i64 10, .int .i64 T] 65))
    clear FW_16 FZ_17 FA_18 FG_19
    have N_27 : Hid ((((((w3.alloc (.cells #[.int .i64 T, .slice (some ⟨gs3, 0, none⟩) 0 cs3] 27)).alloc (.cells #[.slice (some ⟨ga3, 0, none⟩) 64 ca3] 38)).alloc (.cells #[.int .i64 0, .int .i64 0, .int .i64 0, .int .i64 0] 40)).alloc (.cells #[.int .i64 0] 3)).alloc (.cells #[.int .i64 10, .int .i64 T] 65)).heap.size = w3.heap.size + 5) := al5_s w3 (.cells #[.int .i64 T, .slice (some ⟨gs3, 0, none⟩) 0 cs3] 27) (.cells #[.slice (some ⟨ga3, 0, none⟩) 64 ca3] 38) (.cells #[.int .i64 0, .int .i64 0, .int .i64 0, .int .i64 0] 40) (.cells #[.int .i64 0] 3) (.cells #[.int .i64 10, .int .i64 T] 65)
    have FX_28 : Hid (((((((w3.alloc (.cells #[.int .i64 T, .slice (some ⟨gs3, 0, none⟩) 0 cs3] 27)).alloc (.cells #[.slice (some ⟨ga3, 0, none⟩) 64 ca3] 38)).alloc (.cells #[.int .i64 0, .int .i64 0, .int .i64 0, .int .i64 0] 40)).alloc (.cells #[.int .i64 0] 3)).alloc (.cells #[.int .i64 10, .int .i64 T] 65))).heap[w3.heap.size]? = some (.cells #[.int .i64 T, .slice (some ⟨gs3, 0, none⟩) 0 cs3] 27)) := al5_1 w3 (.cells #[.int .i64 T, .slice (some ⟨gs3, 0, none⟩) 0 cs3] 27) (.cells #[.slice (some ⟨ga3, 0, none⟩) 64 ca3] 38) (.cells #[.int .i64 0, .int .i64 0, .int .i64 0, .int .i64 0] 40) (.cells #[.int .i64 0] 3) (.cells #[.int .i64 10, .int .i64 T] 65)
    have FXa_29 : Hid (((((((w3.alloc (.cells #[.int .i64 T, .slice (some ⟨gs3, 0, none⟩) 0 cs3] 27)).alloc (.cells #[.slice (some ⟨ga3, 0, none⟩) 64 ca3] 38)).alloc (.cells #[.int .i64 0, .int .i64 0, .int .i64 0, .int .i64 0] 40)).alloc (.cells #[.int .i64 0] 3)).alloc (.cells #[.int .i64 10, .int .i64 T] 65))).heap[w3.heap.size + 1]? = some (.cells #[.slice (some ⟨ga3, 0, none⟩) 64 ca3] 38)) := al5_2 w3 (.cells #[.int .i64 T, .slice (some ⟨gs3, 0, none⟩) 0 cs3] 27) (.cells #[.slice (some ⟨ga3, 0, none⟩) 64 ca3] 38) (.cells #[.int .i64 0, .int .i64 0, .int .i64 0, .int .i64 0] 40) (.cells #[.int .i64 0] 3) (.cells #[.int .i64 10, .int .i64 T] 65)
    have FE_30 : Hid (((((((w3.alloc (.cells #[.int .i64 T, .slice (some ⟨gs3, 0, none⟩) 0 cs3] 27)).alloc (.cells #[.slice (some ⟨ga3, 0, none⟩) 64 ca3] 38)).alloc (.cells #[.int .i64 0, .int .i64 0, .int .i64 0, .int .i64 0] 40)).alloc (.cells #[.int .i64 0] 3)).alloc (.cells #[.int .i64 10, .int .i64 T] 65))).heap[w3.heap.size + 1 + 1]? = some (.cells #[.int .i64 0, .int .i64 0, .int .i64 0, .int .i64 0] 40)) := al5_3 w3 (.cells #[.int .i64 T, .slice (some ⟨gs3, 0, none⟩) 0 cs3] 27) (.cells #[.slice (some ⟨ga3, 0, none⟩) 64 ca3] 38) (.cells #[.int .i64 0, .int .i64 0, .int .i64 0, .int .i64 0] 40) (.cells #[.int .i64 0] 3) (.cells #[.int .i64 10, .int .i64 T] 65)
    have FS_31 : Hid (((((((w3.alloc (.cells #[.int .i64 T, .slice (some ⟨gs3, 0, none⟩) 0 cs3] 27)).alloc (.cells #[.slice (some ⟨ga3, 0, none⟩) 64 ca3] 38)).alloc (.cells #[.int .i64 0, .int .i64 0, .int .i64 0, .int .i64 0] 40)).alloc (.cells #[.int .i64 0] 3)).alloc (.cells #[.int .i64 10, .int .i64 T] 65))).heap[w3.heap.size + 1 + 1 + 1]? = some (.cells #[.int .i64 0] 3)) := al5_4 w3 (.cells #[.int .i64 T, .slice (some ⟨gs3, 0, none⟩) 0 cs3] 27) (.cells #[.slice (some ⟨ga3, 0, none⟩) 64 ca3] 38) (.cells #[.int .i64 0, .int .i64 0, .int .i64 0, .int .i64 0] 40) (.cells #[.int .i64 0] 3) (.cells #[.int .i64 10, .int .i64 T] 65)
    have FJ_32 : Hid (((((((w3.alloc (.cells #[.int .i64 T, .slice (some ⟨gs3, 0, none⟩) 0 cs3] 27)).alloc (.cells #[.slice (some ⟨ga3, 0, none⟩) 64 ca3] 38)).alloc (.cells #[.int .i64 0, .int .i64 0, .int .i64 0, .int .i64 0] 40)).alloc (.cells #[.int .i64 0] 3)).alloc (.cells #[.int .i64 10, .int .i64 T] 65))).heap[w3.heap.size + 1 + 1 + 1 + 1]? = some (.cells #[.int .i64 10, .int .i64 T] 65)) := al5_5 w3 (.cells #[.int .i64 T, .slice (some ⟨gs3, 0, none⟩) 0 cs3] 27) (.cells #[.slice (some ⟨ga3, 0, none⟩) 64 ca3] 38) (.cells #[.int .i64 0, .int .i64 0, .int .i64 0, .int .i64 0] 40) (.cells #[.int .i64 0] 3) (.cells #[.int .i64 10, .int .i64 T] 65)
    clear FXa_29
    have kA := row1_cells FA_25.out
    have kG := row2_cells FG_26.out
    go_wp2_with fail
    clear kA kG
    refine (stepI (some ⟨w3.heap.size + 1 + 1 + 1, 0, none⟩) (0) [0] 1 1 (some ⟨w3.heap.size + 1 + 1 + 1 + 1, 0, none⟩) [(10, T)] 1 1 (some ⟨g2, 0, none⟩) z64 64 64 (0) (4) (0) true ⟨T, [], z64, 0, 0, 0, 0⟩ 0 rfl (by decide) rfl (by decide) (by rfl) (by decide) ⟨fun _ => ⟨cpuR_one 0 0 (by decide) (by decide) ⟨by omega, by omega⟩, codeR_one 10 T ⟨by decide, by decide⟩ ⟨by omega, by omega⟩, by decide⟩, fun _ => rfl⟩ (show okR (if (0 : Int) = 0 then min T 60 else 1) [] z64 = _ by rw [if_pos rfl, Int.min_eq_left (by omega)]; rfl) rfl _ (RowAt.rd (l := [0]) FS_31.out) (I.RowR.rd FJ_32.out) (RowAt.rd FZ_24.out)).mono ?_
    rintro e w4 ⟨gs4, cs4, ga4, ca4, rfl, hs4, ha4, hne4, hb4⟩
    have N_33 : Hid (((((((w3.alloc (.cells #[.int .i64 T, .slice (some ⟨gs3, 0, none⟩) 0 cs3] 27)).alloc (.cells #[.slice (some ⟨ga3, 0, none⟩) 64 ca3] 38)).alloc (.cells #[.int .i64 0, .int .i64 0, .int .i64 0, .int .i64 0] 40)).alloc (.cells #[.int .i64 0] 3)).alloc (.cells #[.int .i64 10, .int .i64 T] 65))).heap.size ≤ (w4).heap.size) := (hb4).size
    have FW_34 : Hid (Below w0.heap.size w0 (w4)) := bel_on (Nat.le_refl _) FW_23.out (hb4)
    have FZ_35 : Hid (RowAt (w4) g2 z64) := RowAt.on FZ_24.out (hb4)
    have FA_36 : Hid ((w4).heap[w2.heap.size]? = some (.cells #[.slice (some ⟨g2, 0, none⟩) 64 64] 38)) := row_on FA_25.out (hb4)
    have FG_37 : Hid ((w4).heap[w2.heap.size + 1]? = some (.cells #[.int .i64 0, .int .i64 4] 46)) := row_on FG_26.out (hb4)
    have FX_38 : Hid ((w4).heap[w3.heap.size]? = some (.cells #[.int .i64 T, .slice (some ⟨gs3, 0, none⟩) 0 cs3] 27)) := row_on FX_28.out (hb4)
    have FE_39 : Hid ((w4).heap[w3.heap.size + 1 + 1]? = some (.cells #[.int .i64 0, .int .i64 0, .int .i64 0, .int .i64 0] 40)) := row_on FE_30.out (hb4)
    have FS_40 : Hid ((w4).heap[w3.heap.size + 1 + 1 + 1]? = some (.cells #[.int .i64 0] 3)) := row_on FS_31.out (hb4)
    have FJ_41 : Hid ((w4).heap[w3.heap.size + 1 + 1 + 1 + 1]? = some (.cells #[.int .i64 10, .int .i64 T] 65)) := row_on FJ_32.out (hb4)
    clear FW_23 FZ_24 FA_25 FG_26 FX_28 FE_30 FS_31 FJ_32
    have N_42 : Hid (((((((w3.alloc (.cells #[.int .i64 T, .slice (some ⟨gs3, 0, none⟩) 0 cs3] 27)).alloc (.cells #[.slice (some ⟨ga3, 0, none⟩) 64 ca3] 38)).alloc (.cells #[.int .i64 0, .int .i64 0, .int .i64 0, .int .i64 0] 40)).alloc (.cells #[.int .i64 0] 3)).alloc (.cells #[.int .i64 10, .int .i64 T] 65))).heap.size ≤ gs4 ∧ gs4 < w4.heap.size ∧ ((((((w3.alloc (.cells #[.int .i64 T, .slice (some ⟨gs3, 0, none⟩) 0 cs3] 27)).alloc (.cells #[.slice (some ⟨ga3, 0, none⟩) 64 ca3] 38)).alloc (.cells #[.int .i64 0, .int .i64 0, .int .i64 0, .int .i64 0] 40)).alloc (.cells #[.int .i64 0] 3)).alloc (.cells #[.int .i64 10, .int .i64 T] 65))).heap.size ≤ ga4 ∧ ga4 < w4.heap.size) := ⟨hs4.ge, hs4.lt, ha4.ge, ha4.lt⟩
    clear FJ_41
    clear FS_40
    clear hs4 ha4 hne4 hb4
    have N_43 : Hid ((w4).heap.size ≤ ((((w4.alloc (.cells #[.int .i64 T, .slice (some ⟨gs4, 0, none⟩) 0 cs4] 27)).alloc (.cells #[.slice (some ⟨ga4, 0, none⟩) 64 ca4] 38)).alloc (.cells #[.int .i64 0, .int .i64 0, .int .i64 0, .int .i64 0] 40))).heap.size) := (al3_b w4 (.cells #[.int .i64 T, .slice (some ⟨gs4, 0, none⟩) 0 cs4] 27) (.cells #[.slice (some ⟨ga4, 0, none⟩) 64 ca4] 38) (.cells #[.int .i64 0, .int .i64 0, .int .i64 0, .int .i64 0] 40)).size
    have FW_44 : Hid (Below w0.heap.size w0 ((((w4.alloc (.cells #[.int .i64 T, .slice (some ⟨gs4, 0, none⟩) 0 cs4] 27)).alloc (.cells #[.slice (some ⟨ga4, 0, none⟩) 64 ca4] 38)).alloc (.cells #[.int .i64 0, .int .i64 0, .int .i64 0, .int .i64 0] 40)))) := bel_on (Nat.le_refl _) FW_34.out (al3_b w4 (.cells #[.int .i64 T, .slice (some ⟨gs4, 0, none⟩) 0 cs4] 27) (.cells #[.slice (some ⟨ga4, 0, none⟩) 64 ca4] 38) (.cells #[.int .i64 0, .int .i64 0, .int .i64 0, .int .i64 0] 40))
    have FZ_45 : Hid (RowAt ((((w4.alloc (.cells #[.int .i64 T, .slice (some ⟨gs4, 0, none⟩) 0 cs4] 27)).alloc (.cells #[.slice (some ⟨ga4, 0, none⟩) 64 ca4] 38)).alloc (.cells #[.int .i64 0, .int .i64 0, .int .i64 0, .int .i64 0] 40))) g2 z64) := RowAt.on FZ_35.out (al3_b w4 (.cells #[.int .i64 T, .slice (some ⟨gs4, 0, none⟩) 0 cs4] 27) (.cells #[.slice (some ⟨ga4, 0, none⟩) 64 ca4] 38) (.cells #[.int .i64 0, .int .i64 0, .int .i64 0, .int .i64 0] 40))
    have FA_46 : Hid (((((w4.alloc (.cells #[.int .i64 T, .slice (some ⟨gs4, 0, none⟩) 0 cs4] 27)).alloc (.cells #[.slice (some ⟨ga4, 0, none⟩) 64 ca4] 38)).alloc (.cells #[.int .i64 0, .int .i64 0, .int .i64 0, .int .i64 0] 40))).heap[w2.heap.size]? = some (.cells #[.slice (some ⟨g2, 0, none⟩) 64 64] 38)) := row_on FA_36.out (al3_b w4 (.cells #[.int .i64 T, .slice (some ⟨gs4, 0, none⟩) 0 cs4] 27) (.cells #[.slice (some ⟨ga4, 0, none⟩) 64 ca4] 38) (.cells #[.int .i64 0, .int .i64 0, .int .i64 0, .int .i64 0] 40))
    have FG_47 : Hid (((((w4.alloc (.cells #[.int .i64 T, .slice (some ⟨gs4, 0, none⟩) 0 cs4] 27)).alloc (.cells #[.slice (some ⟨ga4, 0, none⟩) 64 ca4] 38)).alloc (.cells #[.int .i64 0, .int .i64 0, .int .i64 0, .int .i64 0] 40))).heap[w2.heap.size + 1]? = some (.cells #[.int .i64 0, .int .i64 4] 46)) := row_on FG_37.out (al3_b w4 (.cells #[.int .i64 T, .slice (some ⟨gs4, 0, none⟩) 0 cs4] 27) (.cells #[.slice (some ⟨ga4, 0, none⟩) 64 ca4] 38) (.cells #[.int .i64 0, .int .i64 0, .int .i64 0, .int .i64 0] 40))
    have FX_48 : Hid (((((w4.alloc (.cells #[.int .i64 T, .slice (some ⟨gs4, 0, none⟩) 0 cs4] 27)).alloc (.cells #[.slice (some ⟨ga4, 0, none⟩) 64 ca4] 38)).alloc (.cells #[.int .i64 0, .int .i64 0, .int .i64 0, .int .i64 0] 40))).heap[w3.heap.size]? = some (.cells #[.int .i64 T, .slice (some ⟨gs3, 0, none⟩) 0 cs3] 27)) := row_on FX_38.out (al3_b w4 (.cells #[.int .i64 T, .slice (some ⟨gs4, 0, none⟩) 0 cs4] 27) (.cells #[.slice (some ⟨ga4, 0, none⟩) 64 ca4] 38) (.cells #[.int .i64 0, .int .i64 0, .int .i64 0, .int .i64 0] 40))
    have FE_49 : Hid (((((w4.alloc (.cells #[.int .i64 T, .slice (some ⟨gs4, 0, none⟩) 0 cs4] 27)).alloc (.cells #[.slice (some ⟨ga4, 0, none⟩) 64 ca4] 38)).alloc (.cells #[.int .i64 0, .int .i64 0, .int .i64 0, .int .i64 0] 40))).heap[w3.heap.size + 1 + 1]? = some (.cells #[.int .i64 0, .int .i64 0, .int .i64 0, .int .i64 0] 40)) := row_on FE_39.out (al3_b w4 (.cells #[.int .i64 T, .slice (some ⟨gs4, 0, none⟩) 0 cs4] 27) (.cells #[.slice (some ⟨ga4, 0, none⟩) 64 ca4] 38) (.cells #[.int .i64 0, .int .i64 0, .int .i64 0, .int .i64 0] 40))
    clear FW_34 FZ_35 FA_36 FG_37 FX_38 FE_39
    have N_50 : Hid ((((w4.alloc (.cells #[.int .i64 T, .slice (some ⟨gs4, 0, none⟩) 0 cs4] 27)).alloc (.cells #[.slice (some ⟨ga4, 0, none⟩) 64 ca4] 38)).alloc (.cells #[.int .i64 0, .int .i64 0, .int .i64 0, .int .i64 0] 40)).heap.size = w4.heap.size + 3) := al3_s w4 (.cells #[.int .i64 T, .slice (some ⟨gs4, 0, none⟩) 0 cs4] 27) (.cells #[.slice (some ⟨ga4, 0, none⟩) 64 ca4] 38) (.cells #[.int .i64 0, .int .i64 0, .int .i64 0, .int .i64 0] 40)
    have FY_51 : Hid (((((w4.alloc (.cells #[.int .i64 T, .slice (some ⟨gs4, 0, none⟩) 0 cs4] 27)).alloc (.cells #[.slice (some ⟨ga4, 0, none⟩) 64 ca4] 38)).alloc (.cells #[.int .i64 0, .int .i64 0, .int .i64 0, .int .i64 0] 40))).heap[w4.heap.size]? = some (.cells #[.int .i64 T, .slice (some ⟨gs4, 0, none⟩) 0 cs4] 27)) := al3_1 w4 (.cells #[.int .i64 T, .slice (some ⟨gs4, 0, none⟩) 0 cs4] 27) (.cells #[.slice (some ⟨ga4, 0, none⟩) 64 ca4] 38) (.cells #[.int .i64 0, .int .i64 0, .int .i64 0, .int .i64 0] 40)
    have FYa_52 : Hid (((((w4.alloc (.cells #[.int .i64 T, .slice (some ⟨gs4, 0, none⟩) 0 cs4] 27)).alloc (.cells #[.slice (some ⟨ga4, 0, none⟩) 64 ca4] 38)).alloc (.cells #[.int .i64 0, .int .i64 0, .int .i64 0, .int .i64 0] 40))).heap[w4.heap.size + 1]? = some (.cells #[.slice (some ⟨ga4, 0, none⟩) 64 ca4] 38)) := al3_2 w4 (.cells #[.int .i64 T, .slice (some ⟨gs4, 0, none⟩) 0 cs4] 27) (.cells #[.slice (some ⟨ga4, 0, none⟩) 64 ca4] 38) (.cells #[.int .i64 0, .int .i64 0, .int .i64 0, .int .i64 0] 40)
    have FF_53 : Hid (((((w4.alloc (.cells #[.int .i64 T, .slice (some ⟨gs4, 0, none⟩) 0 cs4] 27)).alloc (.cells #[.slice (some ⟨ga4, 0, none⟩) 64 ca4] 38)).alloc (.cells #[.int .i64 0, .int .i64 0, .int .i64 0, .int .i64 0] 40))).heap[w4.heap.size + 1 + 1]? = some (.cells #[.int .i64 0, .int .i64 0, .int .i64 0, .int .i64 0] 40)) := al3_3 w4 (.cells #[.int .i64 T, .slice (some ⟨gs4, 0, none⟩) 0 cs4] 27) (.cells #[.slice (some ⟨ga4, 0, none⟩) 64 ca4] 38) (.cells #[.int .i64 0, .int .i64 0, .int .i64 0, .int .i64 0] 40)
    clear FYa_52
    have kX := row2_cells FX_48.out
    have kE := row4_cells FE_49.out
    have kY := row2_cells FY_51.out
    have kF := row4_cells FF_53.out
    go_wp2
    go_ret
    exact ⟨rfl, FW_44.out⟩
  · skip
    go_wp2_with fail
    refine (newI _).mono ?_
    rintro e w2 ⟨g2, rfl, hg2, hrow2, hb2⟩
    have N_4 : Hid ((w1).heap.size ≤ (w2).heap.size) := (hb2).size
    have FW_5 : Hid (Below w0.heap.size w0 (w2)) := bel_on (Nat.le_refl _) FW_3.out (hb2)
    clear FW_3
    have N_6 : Hid ((w1).heap.size ≤ g2 ∧ g2 < w2.heap.size) := ⟨hg2, hrow2.lt⟩
    have FZ_7 : Hid (RowAt (w2) g2 z64) := hrow2
    clear hg2 hrow2 hb2
    clear c0 c1 hT hn hT2 hn2 h0 h1
    have N_8 : Hid ((w2).heap.size ≤ ((((w2.alloc (.cells #[.slice (some ⟨g2, 0, none⟩) 64 64] 38)).alloc (.cells #[.int .i64 0, .int .i64 4] 46)).alloc (.cells #[.int .i64 9, .int .i64 T] 65))).heap.size) := (al3_b w2 (.cells #[.slice (some ⟨g2, 0, none⟩) 64 64] 38) (.cells #[.int .i64 0, .int .i64 4] 46) (.cells #[.int .i64 9, .int .i64 T] 65)).size
    have FW_9 : Hid (Below w0.heap.size w0 ((((w2.alloc (.cells #[.slice (some ⟨g2, 0, none⟩) 64 64] 38)).alloc (.cells #[.int .i64 0, .int .i64 4] 46)).alloc (.cells #[.int .i64 9, .int .i64 T] 65)))) := bel_on (Nat.le_refl _) FW_5.out (al3_b w2 (.cells #[.slice (some ⟨g2, 0, none⟩) 64 64] 38) (.cells #[.int .i64 0, .int .i64 4] 46) (.cells #[.int .i64 9, .int .i64 T] 65))
    have FZ_10 : Hid (RowAt ((((w2.alloc (.cells #[.slice (some ⟨g2, 0, none⟩) 64 64] 38)).alloc (.cells #[.int .i64 0, .int .i64 4] 46)).alloc (.cells #[.int .i64 9, .int .i64 T] 65))) g2 z64) := RowAt.on FZ_7.out (al3_b w2 (.cells #[.slice (some ⟨g2, 0, none⟩) 64 64] 38) (.cells #[.int .i64 0, .int .i64 4] 46) (.cells #[.int .i64 9, .int .i64 T] 65))
    clear FW_5 FZ_7
    have N_11 : Hid ((((w2.alloc (.cells #[.slice (some ⟨g2, 0, none⟩) 64 64] 38)).alloc (.cells #[.int .i64 0, .int .i64 4] 46)).alloc (.cells #[.int .i64 9, .int .i64 T] 65)).heap.size = w2.heap.size + 3) := al3_s w2 (.cells #[.slice (some ⟨g2, 0, none⟩) 64 64] 38) (.cells #[.int .i64 0, .int .i64 4] 46) (.cells #[.int .i64 9, .int .i64 T] 65)
    have FA_12 : Hid (((((w2.alloc (.cells #[.slice (some ⟨g2, 0, none⟩) 64 64] 38)).alloc (.cells #[.int .i64 0, .int .i64 4] 46)).alloc (.cells #[.int .i64 9, .int .i64 T] 65))).heap[w2.heap.size]? = some (.cells #[.slice (some ⟨g2, 0, none⟩) 64 64] 38)) := al3_1 w2 (.cells #[.slice (some ⟨g2, 0, none⟩) 64 64] 38) (.cells #[.int .i64 0, .int .i64 4] 46) (.cells #[.int .i64 9, .int .i64 T] 65)
    have FG_13 : Hid (((((w2.alloc (.cells #[.slice (some ⟨g2, 0, none⟩) 64 64] 38)).alloc (.cells #[.int .i64 0, .int .i64 4] 46)).alloc (.cells #[.int .i64 9, .int .i64 T] 65))).heap[w2.heap.size + 1]? = some (.cells #[.int .i64 0, .int .i64 4] 46)) := al3_2 w2 (.cells #[.slice (some ⟨g2, 0, none⟩) 64 64] 38) (.cells #[.int .i64 0, .int .i64 4] 46) (.cells #[.int .i64 9, .int .i64 T] 65)
    have FI_14 : Hid (((((w2.alloc (.cells #[.slice (some ⟨g2, 0, none⟩) 64 64] 38)).alloc (.cells #[.int .i64 0, .int .i64 4] 46)).alloc (.cells #[.int .i64 9, .int .i64 T] 65))).heap[w2.heap.size + 1 + 1]? = some (.cells #[.int .i64 9, .int .i64 T] 65)) := al3_3 w2 (.cells #[.slice (some ⟨g2, 0, none⟩) 64 64] 38) (.cells #[.int .i64 0, .int .i64 4] 46) (.cells #[.int .i64 9, .int .i64 T] 65)
    have kA := row1_cells FA_12.out
    have kG := row2_cells FG_13.out
    go_wp2_with fail
    clear kA kG
    refine (stepI none (0) [] 0 0 (some ⟨w2.heap.size + 1 + 1, 0, none⟩) [(9, T)] 1 1 (some ⟨g2, 0, none⟩) z64 64 64 (0) (4) (0) true ⟨T, [], z64, 0, 0, 0, 0⟩ 0 rfl (by decide) rfl (by decide) (by rfl) (by decide) ⟨fun _ => ⟨cpuR_nil 0 (by decide) (by decide), codeR_one 9 T ⟨by decide, by decide⟩ ⟨by omega, by omega⟩, by decide⟩, fun _ => rfl⟩ (show okR (min T 60) [] z64 = _ by rw [Int.min_eq_left (by omega)]; rfl) rfl _ (Rd.nil _ _) (I.RowR.rd FI_14.out) (RowAt.rd FZ_10.out)).mono ?_
    rintro e w3 ⟨gs3, cs3, ga3, ca3, rfl, hs3, ha3, hne3, hb3⟩
    have N_15 : Hid (((((w2.alloc (.cells #[.slice (some ⟨g2, 0, none⟩) 64 64] 38)).alloc (.cells #[.int .i64 0, .int .i64 4] 46)).alloc (.cells #[.int .i64 9, .int .i64 T] 65))).heap.size ≤ (w3).heap.size) := (hb3).size
    have FW_16 : Hid (Below w0.heap.size w0 (w3)) := bel_on (Nat.le_refl _) FW_9.out (hb3)
    have FZ_17 : Hid (RowAt (w3) g2 z64) := RowAt.on FZ_10.out (hb3)
    have FA_18 : Hid ((w3).heap[w2.heap.size]? = some (.cells #[.slice (some ⟨g2, 0, none⟩) 64 64] 38)) := row_on FA_12.out (hb3)
    have FG_19 : Hid ((w3).heap[w2.heap.size + 1]? = some (.cells #[.int .i64 0, .int .i64 4] 46)) := row_on FG_13.out (hb3)
    have FI_20 : Hid ((w3).heap[w2.heap.size + 1 + 1]? = some (.cells #[.int .i64 9, .int .i64 T] 65)) := row_on FI_14.out (hb3)
    clear FW_9 FZ_10 FA_12 FG_13 FI_14
    have N_21 : Hid (((((w2.alloc (.cells #[.slice (some ⟨g2, 0, none⟩) 64 64] 38)).alloc (.cells #[.int .i64 0, .int .i64 4] 46)).alloc (.cells #[.int .i64 9, .int .i64 T] 65))).heap.size ≤ gs3 ∧ gs3 < w3.heap.size ∧ ((((w2.alloc (.cells #[.slice (some ⟨g2, 0, none⟩) 64 64] 38)).alloc (.cells #[.int .i64 0, .int .i64 4] 46)).alloc (.cells #[.int .i64 9, .int .i64 T] 65))).heap.size ≤ ga3 ∧ ga3 < w3.heap.size) := ⟨hs3.ge, hs3.lt, ha3.ge, ha3.lt⟩
    clear FI_20
    clear hs3 ha3 hne3 hb3
    have N_22 : Hid ((w3).heap.size ≤ ((((((w3.alloc (.cells #[.int .i64 T, .slice (some ⟨gs3, 0, none⟩) 0 cs3] 27)).alloc (.cells #[.slice (some ⟨ga3, 0, none⟩) 64 ca3] 38)).alloc (.cells #[.int .i64 0, .int .i64 0, .int .i64 0, .int .i64 0] 40)).alloc (.cells #[.int .i64 n] 3)).alloc (.cells #[.int .i64 10, .int .i64 T] 65))).heap.size) := (al5_b w3 (.cells #[.int .i64 T, .slice (some ⟨gs3, 0, none⟩) 0 cs3] 27) (.cells #[.slice (some ⟨ga3, 0, none⟩) 64 ca3] 38) (.cells #[.int .i64 0, .int .i64 0, .int .i64 0, .int .i64 0] 40) (.cells #[.int .i64 n] 3) (.cells #[.int .i64 10, .int .i64 T] 65)).size
    have FW_23 : Hid (Below w0.heap.size w0 ((((((w3.alloc (.cells #[.int .i64 T, .slice (some ⟨gs3, 0, none⟩) 0 cs3] 27)).alloc (.cells #[.slice (some ⟨ga3, 0, none⟩) 64 ca3] 38)).alloc (.cells #[.int .i64 0, .int .i64 0, .int .i64 0, .int .i64 0] 40)).alloc (.cells #[.int .i64 n] 3)).alloc (.cells #[.int .i64 10, .int .i64 T] 65)))) := bel_on (Nat.le_refl _) FW_16.out (al5_b w3 (.cells #[.int .i64 T, .slice (some ⟨gs3, 0, none⟩) 0 cs3] 27) (.cells #[.slice (some ⟨ga3, 0, none⟩) 64 ca3] 38) (.cells #[.int .i64 0, .int .i64 0, .int .i64 0, .int .i64 0] 40) (.cells #[.int .i64 n] 3) (.cells #[.int .i64 10, .int .i64 T] 65))
    have FZ_24 : Hid (RowAt ((((((w3.alloc (.cells #[.int .i64 T, .slice (some ⟨gs3, 0, none⟩) 0 cs3] 27)).alloc (.cells #[.slice (some ⟨ga3, 0, none⟩) 64 ca3] 38)).alloc (.cells #[.int .i64 0, .int .i64 0, .int .i64 0, .int .i64 0] 40)).alloc (.cells #[.int .i64 n] 3)).alloc (.cells #[.int .i64 10, .int .i64 T] 65))) g2 z64) := RowAt.on FZ_17.out (al5_b w3 (.cells #[.int .i64 T, .slice (some ⟨gs3, 0, none⟩) 0 cs3] 27) (.cells #[.slice (some ⟨ga3, 0, none⟩) 64 ca3] 38) (.cells #[.int .i64 0, .int .i64 0, .int .i64 0, .int .i64 0] 40) (.cells #[.int .i64 n] 3) (.cells #[.int .i64 10, .int .i64 T] 65))
    have FA_25 : Hid (((((((w3.alloc (.cells #[.int .i64 T, .slice (some ⟨gs3, 0, none⟩) 0 cs3] 27)).alloc (.cells #[.slice (some ⟨ga3, 0, none⟩) 64 ca3] 38)).alloc (.cells #[.int .i64 0, .int .i64 0, .int .i64 0, .int .i64 0] 40)).alloc (.cells #[.int .i64 n] 3)).alloc (.cells #[.int .i64 10, .int .i64 T] 65))).heap[w2.heap.size]? = some (.cells #[.slice (some ⟨g2, 0, none⟩) 64 64] 38)) := row_on FA_18.out (al5_b w3 (.cells #[.int .i64 T, .slice (some ⟨gs3, 0, none⟩) 0 cs3] 27) (.cells #[.slice (some ⟨ga3, 0, none⟩) 64 ca3] 38) (.cells #[.int .i64 0, .int .i64 0, .int .i64 0, .int .i64 0] 40) (.cells #[.int .i64 n] 3) (.cells #[.int .i64 10, .int .i64 T] 65))
    have FG_26 : Hid (((((((w3.alloc (.cells #[.int .i64 T, .slice (some ⟨gs3, 0, none⟩) 0 cs3] 27)).alloc (.cells #[.slice (some ⟨ga3, 0, none⟩) 64 ca3] 38)).alloc (.cells #[.int .i64 0, .int .i64 0, .int .i64 0, .int .i64 0] 40)).alloc (.cells #[.int .i64 n] 3)).alloc (.cells #[.int .i64 10, .int .i64 T] 65))).heap[w2.heap.size + 1]? = some (.cells #[.int .i64 0, .int .i64 4] 46)) := row_on FG_19.out (al5_b w3 (.cells #[.int .i64 T, .slice (some ⟨gs3, 0, none⟩) 0 cs3] 27) (.cells #[.slice (some ⟨ga3, 0, none⟩) 64 ca3] 38) (.cells #[.int .i64 0, .int .i64 0, .int .i64 0, .int .i64 0] 40) (.cells #[.int .i64 n] 3) (.cells #[.int .i64 10, .int .i64 T] 65))
    clear FW_16 FZ_17 FA_18 FG_19
    have N_27 : Hid ((((((w3.alloc (.cells #[.int .i64 T, .slice (some ⟨gs3, 0, none⟩) 0 cs3] 27)).alloc (.cells #[.slice (some ⟨ga3, 0, none⟩) 64 ca3] 38)).alloc (.cells #[.int .i64 0, .int .i64 0, .int .i64 0, .int .i64 0] 40)).alloc (.cells #[.int .i64 n] 3)).alloc (.cells #[.int .i64 10, .int .i64 T] 65)).heap.size = w3.heap.size + 5) := al5_s w3 (.cells #[.int .i64 T, .slice (some ⟨gs3, 0, none⟩) 0 cs3] 27) (.cells #[.slice (some ⟨ga3, 0, none⟩) 64 ca3] 38) (.cells #[.int .i64 0, .int .i64 0, .int .i64 0, .int .i64 0] 40) (.cells #[.int .i64 n] 3) (.cells #[.int .i64 10, .int .i64 T] 65)
    have FX_28 : Hid (((((((w3.alloc (.cells #[.int .i64 T, .slice (some ⟨gs3, 0, none⟩) 0 cs3] 27)).alloc (.cells #[.slice (some ⟨ga3, 0, none⟩) 64 ca3] 38)).alloc (.cells #[.int .i64 0, .int .i64 0, .int .i64 0, .int .i64 0] 40)).alloc (.cells #[.int .i64 n] 3)).alloc (.cells #[.int .i64 10, .int .i64 T] 65))).heap[w3.heap.size]? = some (.cells #[.int .i64 T, .slice (some ⟨gs3, 0, none⟩) 0 cs3] 27)) := al5_1 w3 (.cells #[.int .i64 T, .slice (some ⟨gs3, 0, none⟩) 0 cs3] 27) (.cells #[.slice (some ⟨ga3, 0, none⟩) 64 ca3] 38) (.cells #[.int .i64 0, .int .i64 0, .int .i64 0, .int .i64 0] 40) (.cells #[.int .i64 n] 3) (.cells #[.int .i64 10, .int .i64 T] 65)
    have FXa_29 : Hid (((((((w3.alloc (.cells #[.int .i64 T, .slice (some ⟨gs3, 0, none⟩) 0 cs3] 27)).alloc (.cells #[.slice (some ⟨ga3, 0, none⟩) 64 ca3] 38)).alloc (.cells #[.int .i64 0, .int .i64 0, .int .i64 0, .int .i64 0] 40)).alloc (.cells #[.int .i64 n] 3)).alloc (.cells #[.int .i64 10, .int .i64 T] 65))).heap[w3.heap.size + 1]? = some (.cells #[.slice (some ⟨ga3, 0, none⟩) 64 ca3] 38)) := al5_2 w3 (.cells #[.int .i64 T, .slice (some ⟨gs3, 0, none⟩) 0 cs3] 27) (.cells #[.slice (some ⟨ga3, 0, none⟩) 64 ca3] 38) (.cells #[.int .i64 0, .int .i64 0, .int .i64 0, .int .i64 0] 40) (.cells #[.int .i64 n] 3) (.cells #[.int .i64 10, .int .i64 T] 65)
    have FE_30 : Hid (((((((w3.alloc (.cells #[.int .i64 T, .slice (some ⟨gs3, 0, none⟩) 0 cs3] 27)).alloc (.cells #[.slice (some ⟨ga3, 0, none⟩) 64 ca3] 38)).alloc (.cells #[.int .i64 0, .int .i64 0, .int .i64 0, .int .i64 0] 40)).alloc (.cells #[.int .i64 n] 3)).alloc (.cells #[.int .i64 10, .int .i64 T] 65))).heap[w3.heap.size + 1 + 1]? = some (.cells #[.int .i64 0, .int .i64 0, .int .i64 0, .int .i64 0] 40)) := al5_3 w3 (.cells #[.int .i64 T, .slice (some ⟨gs3, 0, none⟩) 0 cs3] 27) (.cells #[.slice (some ⟨ga3, 0, none⟩) 64 ca3] 38) (.cells #[.int .i64 0, .int .i64 0, .int .i64 0, .int .i64 0] 40) (.cells #[.int .i64 n] 3) (.cells #[.int .i64 10, .int .i64 T] 65)
    have FS_31 : Hid (((((((w3.alloc (.cells #[.int .i64 T, .slice (some ⟨gs3, 0, none⟩) 0 cs3] 27)).alloc (.cells #[.slice (some ⟨ga3, 0, none⟩) 64 ca3] 38)).alloc (.cells #[.int .i64 0, .int .i64 0, .int .i64 0, .int .i64 0] 40)).alloc (.cells #[.int .i64 n] 3)).alloc (.cells #[.int .i64 10, .int .i64 T] 65))).heap[w3.heap.size + 1 + 1 + 1]? = some (.cells #[.int .i64 n] 3)) := al5_4 w3 (.cells #[.int .i64 T, .slice (some ⟨gs3, 0, none⟩) 0 cs3] 27) (.cells #[.slice (some ⟨ga3, 0, none⟩) 64 ca3] 38) (.cells #[.int .i64 0, .int .i64 0, .int .i64 0, .int .i64 0] 40) (.cells #[.int .i64 n] 3) (.cells #[.int .i64 10, .int .i64 T] 65)
    have FJ_32 : Hid (((((((w3.alloc (.cells #[.int .i64 T, .slice (some ⟨gs3, 0, none⟩) 0 cs3] 27)).alloc (.cells #[.slice (some ⟨ga3, 0, none⟩) 64 ca3] 38)).alloc (.cells #[.int .i64 0, .int .i64 0, .int .i64 0, .int .i64 0] 40)).alloc (.cells #[.int .i64 n] 3)).alloc (.cells #[.int .i64 10, .int .i64 T] 65))).heap[w3.heap.size + 1 + 1 + 1 + 1]? = some (.cells #[.int .i64 10, .int .i64 T] 65)) := al5_5 w3 (.cells #[.int .i64 T, .slice (some ⟨gs3, 0, none⟩) 0 cs3] 27) (.cells #[.slice (some ⟨ga3, 0, none⟩) 64 ca3] 38) (.cells #[.int .i64 0, .int .i64 0, .int .i64 0, .int .i64 0] 40) (.cells #[.int .i64 n] 3) (.cells #[.int .i64 10, .int .i64 T] 65)
    clear FXa_29
    have kA := row1_cells FA_25.out
    have kG := row2_cells FG_26.out
    go_wp2_with fail
    clear kA kG
    refine (stepI (some ⟨w3.heap.size + 1 + 1 + 1, 0, none⟩) (0) [n] 1 1 (some ⟨w3.heap.size + 1 + 1 + 1 + 1, 0, none⟩) [(10, T)] 1 1 (some ⟨g2, 0, none⟩) z64 64 64 (0) (4) (0) true ⟨1, [], z64, 0, 0, 0, 0⟩ 0 rfl (by decide) rfl (by decide) (by rfl) (by decide) ⟨fun _ => ⟨cpuR_one 0 n (by decide) (by decide) ⟨by omega, by omega⟩, codeR_one 10 T ⟨by decide, by decide⟩ ⟨by omega, by omega⟩, by decide⟩, fun _ => rfl⟩ (show okR (if n = 0 then min T 60 else 1) [] z64 = _ by rw [if_neg hz]; rfl) rfl _ (RowAt.rd (l := [n]) FS_31.out) (I.RowR.rd FJ_32.out) (RowAt.rd FZ_24.out)).mono ?_
    rintro e w4 ⟨gs4, cs4, ga4, ca4, rfl, hs4, ha4, hne4, hb4⟩
    have N_33 : Hid (((((((w3.alloc (.cells #[.int .i64 T, .slice (some ⟨gs3, 0, none⟩) 0 cs3] 27)).alloc (.cells #[.slice (some ⟨ga3, 0, none⟩) 64 ca3] 38)).alloc (.cells #[.int .i64 0, .int .i64 0, .int .i64 0, .int .i64 0] 40)).alloc (.cells #[.int .i64 n] 3)).alloc (.cells #[.int .i64 10, .int .i64 T] 65))).heap.size ≤ (w4).heap.size) := (hb4).size
    have FW_34 : Hid (Below w0.heap.size w0 (w4)) := bel_on (Nat.le_refl _) FW_23.out (hb4)
    have FZ_35 : Hid (RowAt (w4) g2 z64) := RowAt.on FZ_24.out (hb4)
    have FA_36 : Hid ((w4).heap[w2.heap.size]? = some (.cells #[.slice (some ⟨g2, 0, none⟩) 64 64] 38)) := row_on FA_25.out (hb4)
    have FG_37 : Hid ((w4).heap[w2.heap.size + 1]? = some (.cells #[.int .i64 0, .int .i64 4] 46)) := row_on FG_26.out (hb4)
    have FX_38 : Hid ((w4).heap[w3.heap.size]? = some (.cells #[.int .i64 T, .slice (some ⟨gs3, 0, none⟩) 0 cs3] 27)) := row_on FX_28.out (hb4)
    have FE_39 : Hid ((w4).heap[w3.heap.size + 1 + 1]? = some (.cells #[.int .i64 0, .int .i64 0, .int .i64 0, .int .i64 0] 40)) := row_on FE_30.out (hb4)
    have FS_40 : Hid ((w4).heap[w3.heap.size + 1 + 1 + 1]? = some (.cells #[.int .i64 n] 3)) := row_on FS_31.out (hb4)
    have FJ_41 : Hid ((w4).heap[w3.heap.size + 1 + 1 + 1 + 1]? = some (.cells #[.int .i64 10, .int .i64 T] 65)) := row_on FJ_32.out (hb4)
    clear FW_23 FZ_24 FA_25 FG_26 FX_28 FE_30 FS_31 FJ_32
    have N_42 : Hid (((((((w3.alloc (.cells #[.int .i64 T, .slice (some ⟨gs3, 0, none⟩) 0 cs3] 27)).alloc (.cells #[.slice (some ⟨ga3, 0, none⟩) 64 ca3] 38)).alloc (.cells #[.int .i64 0, .int .i64 0, .int .i64 0, .int .i64 0] 40)).alloc (.cells #[.int .i64 n] 3)).alloc (.cells #[.int .i64 10, .int .i64 T] 65))).heap.size ≤ gs4 ∧ gs4 < w4.heap.size ∧ ((((((w3.alloc (.cells #[.int .i64 T, .slice (some ⟨gs3, 0, none⟩) 0 cs3] 27)).alloc (.cells #[.slice (some ⟨ga3, 0, none⟩) 64 ca3] 38)).alloc (.cells #[.int .i64 0, .int .i64 0, .int .i64 0, .int .i64 0] 40)).alloc (.cells #[.int .i64 n] 3)).alloc (.cells #[.int .i64 10, .int .i64 T] 65))).heap.size ≤ ga4 ∧ ga4 < w4.heap.size) := ⟨hs4.ge, hs4.lt, ha4.ge, ha4.lt⟩
    clear FJ_41
    clear FS_40
    clear hs4 ha4 hne4 hb4
    have N_43 : Hid ((w4).heap.size ≤ ((((w4.alloc (.cells #[.int .i64 1, .slice (some ⟨gs4, 0, none⟩) 0 cs4] 27)).alloc (.cells #[.slice (some ⟨ga4, 0, none⟩) 64 ca4] 38)).alloc (.cells #[.int .i64 0, .int .i64 0, .int .i64 0, .int .i64 0] 40))).heap.size) := (al3_b w4 (.cells #[.int .i64 1, .slice (some ⟨gs4, 0, none⟩) 0 cs4] 27) (.cells #[.slice (some ⟨ga4, 0, none⟩) 64 ca4] 38) (.cells #[.int .i64 0, .int .i64 0, .int .i64 0, .int .i64 0] 40)).size
    have FW_44 : Hid (Below w0.heap.size w0 ((((w4.alloc (.cells #[.int .i64 1, .slice (some ⟨gs4, 0, none⟩) 0 cs4] 27)).alloc (.cells #[.slice (some ⟨ga4, 0, none⟩) 64 ca4] 38)).alloc (.cells #[.int .i64 0, .int .i64 0, .int .i64 0, .int .i64 0] 40)))) := bel_on (Nat.le_refl _) FW_34.out (al3_b w4 (.cells #[.int .i64 1, .slice (some ⟨gs4, 0, none⟩) 0 cs4] 27) (.cells #[.slice (some ⟨ga4, 0, none⟩) 64 ca4] 38) (.cells #[.int .i64 0, .int .i64 0, .int .i64 0, .int .i64 0] 40))
    have FZ_45 : Hid (RowAt ((((w4.alloc (.cells #[.int .i64 1, .slice (some ⟨gs4, 0, none⟩) 0 cs4] 27)).alloc (.cells #[.slice (some ⟨ga4, 0, none⟩) 64 ca4] 38)).alloc (.cells #[.int .i64 0, .int .i64 0, .int .i64 0, .int .i64 0] 40))) g2 z64) := RowAt.on FZ_35.out (al3_b w4 (.cells #[.int .i64 1, .slice (some ⟨gs4, 0, none⟩) 0 cs4] 27) (.cells #[.slice (some ⟨ga4, 0, none⟩) 64 ca4] 38) (.cells #[.int .i64 0, .int .i64 0, .int .i64 0, .int .i64 0] 40))
    have FA_46 : Hid (((((w4.alloc (.cells #[.int .i64 1, .slice (some ⟨gs4, 0, none⟩) 0 cs4] 27)).alloc (.cells #[.slice (some ⟨ga4, 0, none⟩) 64 ca4] 38)).alloc (.cells #[.int .i64 0, .int .i64 0, .int .i64 0, .int .i64 0] 40))).heap[w2.heap.size]? = some (.cells #[.slice (some ⟨g2, 0, none⟩) 64 64] 38)) := row_on FA_36.out (al3_b w4 (.cells #[.int .i64 1, .slice (some ⟨gs4, 0, none⟩) 0 cs4] 27) (.cells #[.slice (some ⟨ga4, 0, none⟩) 64 ca4] 38) (.cells #[.int .i64 0, .int .i64 0, .int .i64 0, .int .i64 0] 40))
    have FG_47 : Hid (((((w4.alloc (.cells #[.int .i64 1, .slice (some ⟨gs4, 0, none⟩) 0 cs4] 27)).alloc (.cells #[.slice (some ⟨ga4, 0, none⟩) 64 ca4] 38)).alloc (.cells #[.int .i64 0, .int .i64 0, .int .i64 0, .int .i64 0] 40))).heap[w2.heap.size + 1]? = some (.cells #[.int .i64 0, .int .i64 4] 46)) := row_on FG_37.out (al3_b w4 (.cells #[.int .i64 1, .slice (some ⟨gs4, 0, none⟩) 0 cs4] 27) (.cells #[.slice (some ⟨ga4, 0, none⟩) 64 ca4] 38) (.cells #[.int .i64 0, .int .i64 0, .int .i64 0, .int .i64 0] 40))
    have FX_48 : Hid (((((w4.alloc (.cells #[.int .i64 1, .slice (some ⟨gs4, 0, none⟩) 0 cs4] 27)).alloc (.cells #[.slice (some ⟨ga4, 0, none⟩) 64 ca4] 38)).alloc (.cells #[.int .i64 0, .int .i64 0, .int .i64 0, .int .i64 0] 40))).heap[w3.heap.size]? = some (.cells #[.int .i64 T, .slice (some ⟨gs3, 0, none⟩) 0 cs3] 27)) := row_on FX_38.out (al3_b w4 (.cells #[.int .i64 1, .slice (some ⟨gs4, 0, none⟩) 0 cs4] 27) (.cells #[.slice (some ⟨ga4, 0, none⟩) 64 ca4] 38) (.cells #[.int .i64 0, .int .i64 0, .int .i64 0, .int .i64 0] 40))
    have FE_49 : Hid (((((w4.alloc (.cells #[.int .i64 1, .slice (some ⟨gs4, 0, none⟩) 0 cs4] 27)).alloc (.cells #[.slice (some ⟨ga4, 0, none⟩) 64 ca4] 38)).alloc (.cells #[.int .i64 0, .int .i64 0, .int .i64 0, .int .i64 0] 40))).heap[w3.heap.size + 1 + 1]? = some (.cells #[.int .i64 0, .int .i64 0, .int .i64 0, .int .i64 0] 40)) := row_on FE_39.out (al3_b w4 (.cells #[.int .i64 1, .slice (some ⟨gs4, 0, none⟩) 0 cs4] 27) (.cells #[.slice (some ⟨ga4, 0, none⟩) 64 ca4] 38) (.cells #[.int .i64 0, .int .i64 0, .int .i64 0, .int .i64 0] 40))
    clear FW_34 FZ_35 FA_36 FG_37 FX_38 FE_39
    have N_50 : Hid ((((w4.alloc (.cells #[.int .i64 1, .slice (some ⟨gs4, 0, none⟩) 0 cs4] 27)).alloc (.cells #[.slice (some ⟨ga4, 0, none⟩) 64 ca4] 38)).alloc (.cells #[.int .i64 0, .int .i64 0, .int .i64 0, .int .i64 0] 40)).heap.size = w4.heap.size + 3) := al3_s w4 (.cells #[.int .i64 1, .slice (some ⟨gs4, 0, none⟩) 0 cs4] 27) (.cells #[.slice (some ⟨ga4, 0, none⟩) 64 ca4] 38) (.cells #[.int .i64 0, .int .i64 0, .int .i64 0, .int .i64 0] 40)
    have FY_51 : Hid (((((w4.alloc (.cells #[.int .i64 1, .slice (some ⟨gs4, 0, none⟩) 0 cs4] 27)).alloc (.cells #[.slice (some ⟨ga4, 0, none⟩) 64 ca4] 38)).alloc (.cells #[.int .i64 0, .int .i64 0, .int .i64 0, .int .i64 0] 40))).heap[w4.heap.size]? = some (.cells #[.int .i64 1, .slice (some ⟨gs4, 0, none⟩) 0 cs4] 27)) := al3_1 w4 (.cells #[.int .i64 1, .slice (some ⟨gs4, 0, none⟩) 0 cs4] 27) (.cells #[.slice (some ⟨ga4, 0, none⟩) 64 ca4] 38) (.cells #[.int .i64 0, .int .i64 0, .int .i64 0, .int .i64 0] 40)
    have FYa_52 : Hid (((((w4.alloc (.cells #[.int .i64 1, .slice (some ⟨gs4, 0, none⟩) 0 cs4] 27)).alloc (.cells #[.slice (some ⟨ga4, 0, none⟩) 64 ca4] 38)).alloc (.cells #[.int .i64 0, .int .i64 0, .int .i64 0, .int .i64 0] 40))).heap[w4.heap.size + 1]? = some (.cells #[.slice (some ⟨ga4, 0, none⟩) 64 ca4] 38)) := al3_2 w4 (.cells #[.int .i64 1, .slice (some ⟨gs4, 0, none⟩) 0 cs4] 27) (.cells #[.slice (some ⟨ga4, 0, none⟩) 64 ca4] 38) (.cells #[.int .i64 0, .int .i64 0, .int .i64 0, .int .i64 0] 40)
    have FF_53 : Hid (((((w4.alloc (.cells #[.int .i64 1, .slice (some ⟨gs4, 0, none⟩) 0 cs4] 27)).alloc (.cells #[.slice (some ⟨ga4, 0, none⟩) 64 ca4] 38)).alloc (.cells #[.int .i64 0, .int .i64 0, .int .i64 0, .int .i64 0] 40))).heap[w4.heap.size + 1 + 1]? = some (.cells #[.int .i64 0, .int .i64 0, .int .i64 0, .int .i64 0] 40)) := al3_3 w4 (.cells #[.int .i64 1, .slice (some ⟨gs4, 0, none⟩) 0 cs4] 27) (.cells #[.slice (some ⟨ga4, 0, none⟩) 64 ca4] 38) (.cells #[.int .i64 0, .int .i64 0, .int .i64 0, .int .i64 0] 40)
    clear FYa_52
    have kX := row2_cells FX_48.out
    have kE := row4_cells FE_49.out
    have kY := row2_cells FY_51.out
    have kF := row4_cells FF_53.out
    go_wp2
    go_ret
    exact ⟨rfl, FW_44.out⟩

theorem walk (a0 : Option Addr) (len0 cap0 : Nat) (z0 : List Int) (w : World) (w0 : D.IsRow .u8 w a0 len0 cap0 z0) :
    Calls Try.prog 10 #[.slice a0 len0 cap0] w fun e w' => e = .returned (.bool true) ∧ Below w.heap.size w w' := by
  have hlen : len0 ≤ 9223372036854775807 := by
    rcases w0 with ⟨_, h, _⟩ | ⟨x, _, h1, h2, _⟩
    · omega
    · unfold maxLen at h2; omega
  by_cases hb : len0 ≤ 1048576
  · exact jumps_in a0 len0 cap0 hb w (D.code_of_row w0 hb)
  · have hb' : 1048576 < len0 := by omega
    go_enter Try.func10, Try.ntmps10
    go_wp2_with fail
    refine (D.big5 a0 len0 cap0 hlen _).mono ?_
    rintro e w1 ⟨rfl, rfl⟩
    rw [decide_eq_true (by omega)]
    go_wp2
    go_ret
    exact ⟨rfl, Below.refl _ _⟩

set_option maxRecDepth 100000 in
theorem lifted (os : Os) (started : os.Started) (H : Type) (enc : TypeId × Value → H) :
    ReturnsInHanded {} Try.checked os 10 .any (Rows.fnJumpsSpec.pre6 enc Try.prog Try.f10 Rows.fnJumpsRow.domain false) (Rows.fnJumpsSpec.post enc Try.prog Try.f10 false true false false) := by
  refine returnsInHanded_of_change (C := Try.checked) own started (by kernel_rfl) Try.func10
    (ChangeSpec.witness6 (enc := enc) (C := Try.checked) false ⟨#[], #[.slice none 0 0], []⟩ 8 (by kernel_rfl) (by kernel_rfl) (by kernel_rfl) (by kernel_rfl)) ?_
  intro W base args ds gs before hval0 hW hcnd _
  have hval : ∀ (j : Nat) t v, Try.f10.params[j]? = some t → args[j]? = some v → Value.okWide Try.prog W .any base t v := hval0
  have hW' := hW
  obtain ⟨p, q, hA0, hV, rfl, hfz, hnd⟩ := hW
  have hA : DataW.TrodAll enc Try.prog W 0 (fun _ => true) true Try.f10.params.toList args.toList ds p := hA0
  rw [Try.params10] at hA hval
  obtain ⟨v0, vs0, d0, ds0, p0, q0, hargs, rfl, rfl, h0, r0⟩ := trodAll_cons hA
  obtain ⟨rfl, rfl, rfl⟩ := trodAll_nil r0
  obtain rfl : args = #[v0] := by cases args; simp_all
  obtain ⟨rfl, rfl⟩ := trodVars_none hV
  have k0 := h0
  have lt0 : ∀ x ∈ p0, x.block < W.heap.size := by obtain ⟨m, hm⟩ := k0; exact DataW.trod_lt m _ _ _ hm
  obtain ⟨a0, len0, cap0, z0, rfl, w0⟩ := D.open_code (hval 0 58 v0 rfl rfl) h0
  clear hA0 hval0
  refine (walk a0 len0 cap0 z0 W w0).mono fun e W' ⟨he, bel⟩ => ?_
  subst he
  exact ⟨_, rfl, _, _, _, [], _, [], hW', trodAll_mk1 (shut_bool Try.underlying4 _), (trodAll_cons_mk (Below.trod laidOut (by kernel_rfl) (of_decide_eq_true (by kernel_rfl)) k0 bel lt0) trodAll_mk0), rfl, bel.frame _, fun h => by cases h⟩

theorem over : Rows.fnJumpsRow.holds Try.pinned (OpenSpec.ofChange Rows.fnJumpsSpec) :=
  OpenClaim.holds_of_wide 10 Try.f10 rfl rfl rfl rfl rfl rfl rfl ⟨rfl, rfl, rfl, rfl, rfl⟩ rfl rfl rfl rfl rfl (by kernel_rfl) Try.func10 (by kernel_rfl)
    (of_decide_eq_true (by kernel_rfl)) (by unfold Func.isWrapper; first | (rw [if_pos (by decide +kernel)]; kernel_rfl) | (rw [if_neg (by decide +kernel)]; exact ⟨rfl, rfl⟩))
    (fun os started H enc _ => lifted os started H enc)

end Go.Proofs.Ytbacmkibilhkgaa.fnJumps
namespace Go.Proofs.Ytbacmkibilhkgaa
theorem fnJumps_holds : Rows.FnJumpsSaid :=
  fnJumps.over
#print axioms fnJumps_holds
end Go.Proofs.Ytbacmkibilhkgaa
