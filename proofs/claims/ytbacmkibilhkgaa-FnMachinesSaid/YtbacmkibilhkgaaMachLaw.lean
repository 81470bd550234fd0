/-
  Proved: for every text of bytes the call of FnMachines returns true: a drawn machine steps as the specification says, stays right, and a trap leaves it and all cells as they were (texts of more than 1048576 bytes the law itself lets by). No conditions.
-/
import Derived.Test.YtbacmkibilhkgaaRows
import Derived.Test.YtbacmkibilhkgaaSpecS
import Derived.Test.YtbacmkibilhkgaaLawD
import Derived.Test.YtbacmkibilhkgaaDrawP
import Derived.OpenShut
import Derived.ShutString
import Derived.ChangeOld
import Derived.Below
import Derived.OpenVars
import Derived.Deep.DeepHandedRow
namespace Go.Proofs.Ytbacmkibilhkgaa.fnMachines
open Go.ChangeShapes Go.WideShapes Go.ChangeAt Go.RowKit Go.PlainAid
open Go.ChangeMaps (open_string shut_string)
set_option linter.unusedVariables false

theorem own : ownKnob Try.prog.godebug = none := by kernel_rfl
theorem laidOut : laidOutB Try.prog = true := by kernel_rfl

theorem qq_keep {W0 W' : World} {p0 p1 p2 p3 p4 p5 p6 p7 p8 p9 p10 p11 p12 p13 p14 p15 : Addr} {v0 v1 v2 v3 v4 v5 v6 v7 v8 v9 v10 v11 v12 v13 v14 v15 : Value} (h : W0.cell? p0 = some v0 ∧ W0.cell? p1 = some v1 ∧ W0.cell? p2 = some v2 ∧ W0.cell? p3 = some v3 ∧ W0.cell? p4 = some v4 ∧ W0.cell? p5 = some v5 ∧ W0.cell? p6 = some v6 ∧ W0.cell? p7 = some v7 ∧ W0.cell? p8 = some v8 ∧ W0.cell? p9 = some v9 ∧ W0.cell? p10 = some v10 ∧ W0.cell? p11 = some v11 ∧ W0.cell? p12 = some v12 ∧ W0.cell? p13 = some v13 ∧ W0.cell? p14 = some v14 ∧ W0.cell? p15 = some v15) (hB : Below W0.heap.size W0 W') : W'.cell? p0 = some v0 ∧ W'.cell? p1 = some v1 ∧ W'.cell? p2 = some v2 ∧ W'.cell? p3 = some v3 ∧ W'.cell? p4 = some v4 ∧ W'.cell? p5 = some v5 ∧ W'.cell? p6 = some v6 ∧ W'.cell? p7 = some v7 ∧ W'.cell? p8 = some v8 ∧ W'.cell? p9 = some v9 ∧ W'.cell? p10 = some v10 ∧ W'.cell? p11 = some v11 ∧ W'.cell? p12 = some v12 ∧ W'.cell? p13 = some v13 ∧ W'.cell? p14 = some v14 ∧ W'.cell? p15 = some v15 ∧ Below W0.heap.size W0 W' :=
  ⟨cell_on h.1 hB, cell_on h.2.1 hB, cell_on h.2.2.1 hB, cell_on h.2.2.2.1 hB, cell_on h.2.2.2.2.1 hB, cell_on h.2.2.2.2.2.1 hB, cell_on h.2.2.2.2.2.2.1 hB, cell_on h.2.2.2.2.2.2.2.1 hB, cell_on h.2.2.2.2.2.2.2.2.1 hB, cell_on h.2.2.2.2.2.2.2.2.2.1 hB, cell_on h.2.2.2.2.2.2.2.2.2.2.1 hB, cell_on h.2.2.2.2.2.2.2.2.2.2.2.1 hB, cell_on h.2.2.2.2.2.2.2.2.2.2.2.2.1 hB, cell_on h.2.2.2.2.2.2.2.2.2.2.2.2.2.1 hB, cell_on h.2.2.2.2.2.2.2.2.2.2.2.2.2.2.1 hB, cell_on h.2.2.2.2.2.2.2.2.2.2.2.2.2.2.2 hB, hB⟩
theorem qq_on {W0 W W' : World} {p0 p1 p2 p3 p4 p5 p6 p7 p8 p9 p10 p11 p12 p13 p14 p15 : Addr} {v0 v1 v2 v3 v4 v5 v6 v7 v8 v9 v10 v11 v12 v13 v14 v15 : Value} (hb : Below W.heap.size W W') (h : W.cell? p0 = some v0 ∧ W.cell? p1 = some v1 ∧ W.cell? p2 = some v2 ∧ W.cell? p3 = some v3 ∧ W.cell? p4 = some v4 ∧ W.cell? p5 = some v5 ∧ W.cell? p6 = some v6 ∧ W.cell? p7 = some v7 ∧ W.cell? p8 = some v8 ∧ W.cell? p9 = some v9 ∧ W.cell? p10 = some v10 ∧ W.cell? p11 = some v11 ∧ W.cell? p12 = some v12 ∧ W.cell? p13 = some v13 ∧ W.cell? p14 = some v14 ∧ W.cell? p15 = some v15 ∧ Below W0.heap.size W0 W) : Below W0.heap.size W0 W' := bel_on (Nat.le_refl _) h.2.2.2.2.2.2.2.2.2.2.2.2.2.2.2.2 hb
theorem qq_bel {W0 W : World} {p0 p1 p2 p3 p4 p5 p6 p7 p8 p9 p10 p11 p12 p13 p14 p15 : Addr} {v0 v1 v2 v3 v4 v5 v6 v7 v8 v9 v10 v11 v12 v13 v14 v15 : Value} (h : W.cell? p0 = some v0 ∧ W.cell? p1 = some v1 ∧ W.cell? p2 = some v2 ∧ W.cell? p3 = some v3 ∧ W.cell? p4 = some v4 ∧ W.cell? p5 = some v5 ∧ W.cell? p6 = some v6 ∧ W.cell? p7 = some v7 ∧ W.cell? p8 = some v8 ∧ W.cell? p9 = some v9 ∧ W.cell? p10 = some v10 ∧ W.cell? p11 = some v11 ∧ W.cell? p12 = some v12 ∧ W.cell? p13 = some v13 ∧ W.cell? p14 = some v14 ∧ W.cell? p15 = some v15 ∧ Below W0.heap.size W0 W) : Below W0.heap.size W0 W := h.2.2.2.2.2.2.2.2.2.2.2.2.2.2.2.2
set_option maxRecDepth 100000 in
set_option maxHeartbeats 8000000 in
theorem machines_in (a0 : Option Addr) (len0 cap0 : Nat) (hb : len0 ≤ 1048576) (w : World) (hcode : D.CodeOk w w.heap.size a0 len0) :
    Calls Try.prog 6 #[.slice a0 len0 cap0] w fun e w' => e = .returned (.bool true) ∧ Below w.heap.size w w' := by
  go_enter Try.func6, Try.ntmps6
  go_wp2_with fail
  refine (D.big5 a0 len0 cap0 (by omega) _).mono ?_
  rintro e w0 ⟨rfl, rfl⟩
  rw [decide_eq_false (by omega)]
  go_wp2_with fail
  refine (D.drawStep a0 len0 cap0 _ hcode).mono ?_
  rintro e w1 ⟨pc, qs, n, cp, st, qc, nc, cc, rl, ga, m, ce, f, s, t, rfl, hl, hn9, hqs, hncp, hr, hlc, hnc61, hrc, hla, hm64, hra, hb1⟩
  have HL : Hid (st.length = n) := hl
  have HLC : Hid (rl.length = nc) := hlc
  have HLA : Hid (ce.length = m) := hla
  have HQS : Hid (qs = none → n = 0 ∧ cp = 0) := hqs
  have HR : Hid (Rd w1 qs st) := hr
  have HRC : Hid (I.RdR w1 qc rl) := hrc
  have HRA : Hid (Rd w1 (some ⟨ga, 0, none⟩) ce) := hra
  obtain ⟨b, hB⟩ := step_bool pc st rl nc
  have HB : Hid (b = true ↔ (CpuR pc st ∧ I.CodeR rl ∧ pc < (nc : Int))) := hB
  obtain ⟨b0, hB0⟩ := cpu_bool pc st
  have HB0 : Hid (b0 = true ↔ CpuR pc st) := hB0
  have hn : n ≤ 1048576 := by omega
  have hnc : nc ≤ 1048576 := by omega
  have hm : m ≤ 1048576 := by omega
  have hmn : n ≤ 9223372036854775807 := by omega
  obtain ⟨R, hRR⟩ : ∃ R : Res, stepR b pc st rl ce f s t = R := ⟨_, rfl⟩
  obtain ⟨N, hNN⟩ : ∃ N : Nat, R.st.length = N := ⟨_, rfl⟩
  have HRR : Hid (stepR b pc st rl ce f s t = R) := hRR
  have HNN : Hid (R.st.length = N) := hNN
  have hsz := stepR_size (f := f) (s := s) (t := t) hl hla hn hB hRR
  have hN1 : N ≤ 1048576 := by rw [← hNN]; exact hsz.1
  have HCE : Hid (R.ce.length = m) := hsz.2
  clear hl hlc hla hqs hr hrc hra hB hB0 hRR hNN hsz
  have FW_1 : Hid (Below w0.heap.size w0 (w0)) := Below.refl _ _
  have N_2 : Hid ((w0).heap.size ≤ (w1).heap.size) := (hb1).size
  have FW_3 : Hid (Below w0.heap.size w0 (w1)) := bel_on (Nat.le_refl _) FW_1.out (hb1)
  clear FW_1 hb1
  have FP_4 : Hid (Below w1.heap.size w1 (w1)) := Below.refl _ _
  have N_5 : Hid ((w1).heap.size ≤ ((((w1.alloc (.cells #[.int .i64 pc, .slice qs n cp] 27)).alloc (.cells #[.slice (some ⟨ga, 0, none⟩) m 64] 38)).alloc (.cells #[.int .i64 f, .int .i64 s] 46))).heap.size) := (al3_b w1 (.cells #[.int .i64 pc, .slice qs n cp] 27) (.cells #[.slice (some ⟨ga, 0, none⟩) m 64] 38) (.cells #[.int .i64 f, .int .i64 s] 46)).size
  have FW_6 : Hid (Below w0.heap.size w0 ((((w1.alloc (.cells #[.int .i64 pc, .slice qs n cp] 27)).alloc (.cells #[.slice (some ⟨ga, 0, none⟩) m 64] 38)).alloc (.cells #[.int .i64 f, .int .i64 s] 46)))) := bel_on (Nat.le_refl _) FW_3.out (al3_b w1 (.cells #[.int .i64 pc, .slice qs n cp] 27) (.cells #[.slice (some ⟨ga, 0, none⟩) m 64] 38) (.cells #[.int .i64 f, .int .i64 s] 46))
  have FP_7 : Hid (Below w1.heap.size w1 ((((w1.alloc (.cells #[.int .i64 pc, .slice qs n cp] 27)).alloc (.cells #[.slice (some ⟨ga, 0, none⟩) m 64] 38)).alloc (.cells #[.int .i64 f, .int .i64 s] 46)))) := bel_on (Nat.le_refl _) FP_4.out (al3_b w1 (.cells #[.int .i64 pc, .slice qs n cp] 27) (.cells #[.slice (some ⟨ga, 0, none⟩) m 64] 38) (.cells #[.int .i64 f, .int .i64 s] 46))
  clear FW_3 FP_4
  have N_8 : Hid ((((w1.alloc (.cells #[.int .i64 pc, .slice qs n cp] 27)).alloc (.cells #[.slice (some ⟨ga, 0, none⟩) m 64] 38)).alloc (.cells #[.int .i64 f, .int .i64 s] 46)).heap.size = w1.heap.size + 3) := al3_s w1 (.cells #[.int .i64 pc, .slice qs n cp] 27) (.cells #[.slice (some ⟨ga, 0, none⟩) m 64] 38) (.cells #[.int .i64 f, .int .i64 s] 46)
  have FC_9 : Hid (((((w1.alloc (.cells #[.int .i64 pc, .slice qs n cp] 27)).alloc (.cells #[.slice (some ⟨ga, 0, none⟩) m 64] 38)).alloc (.cells #[.int .i64 f, .int .i64 s] 46))).heap[w1.heap.size]? = some (.cells #[.int .i64 pc, .slice qs n cp] 27)) := al3_1 w1 (.cells #[.int .i64 pc, .slice qs n cp] 27) (.cells #[.slice (some ⟨ga, 0, none⟩) m 64] 38) (.cells #[.int .i64 f, .int .i64 s] 46)
  have FA_10 : Hid (((((w1.alloc (.cells #[.int .i64 pc, .slice qs n cp] 27)).alloc (.cells #[.slice (some ⟨ga, 0, none⟩) m 64] 38)).alloc (.cells #[.int .i64 f, .int .i64 s] 46))).heap[w1.heap.size + 1]? = some (.cells #[.slice (some ⟨ga, 0, none⟩) m 64] 38)) := al3_2 w1 (.cells #[.int .i64 pc, .slice qs n cp] 27) (.cells #[.slice (some ⟨ga, 0, none⟩) m 64] 38) (.cells #[.int .i64 f, .int .i64 s] 46)
  have FG_11 : Hid (((((w1.alloc (.cells #[.int .i64 pc, .slice qs n cp] 27)).alloc (.cells #[.slice (some ⟨ga, 0, none⟩) m 64] 38)).alloc (.cells #[.int .i64 f, .int .i64 s] 46))).heap[w1.heap.size + 1 + 1]? = some (.cells #[.int .i64 f, .int .i64 s] 46)) := al3_3 w1 (.cells #[.int .i64 pc, .slice qs n cp] 27) (.cells #[.slice (some ⟨ga, 0, none⟩) m 64] 38) (.cells #[.int .i64 f, .int .i64 s] 46)
  have kC := row2_cells FC_9.out
  have kA := row1_cells FA_10.out
  have kG := row2_cells FG_11.out
  go_wp2_with fail
  refine (stepI qs pc st n cp qc rl nc cc (some ⟨ga, 0, none⟩) ce m 64 f s t b R N HL.out hn HLC.out hnc HLA.out hm HB.out HRR.out HNN.out _ (HR.out.on FP_7.out) (HRC.out.on FP_7.out) (HRA.out.on FP_7.out)).mono ?_
  rintro e w2 ⟨gs2, cs2, ga2, ca2, rfl, hs2, ha2, hne2, hb2⟩
  have N_12 : Hid (((((w1.alloc (.cells #[.int .i64 pc, .slice qs n cp] 27)).alloc (.cells #[.slice (some ⟨ga, 0, none⟩) m 64] 38)).alloc (.cells #[.int .i64 f, .int .i64 s] 46))).heap.size ≤ (w2).heap.size) := (hb2).size
  have FW_13 : Hid (Below w0.heap.size w0 (w2)) := bel_on (Nat.le_refl _) FW_6.out (hb2)
  have FP_14 : Hid (Below w1.heap.size w1 (w2)) := bel_on (Nat.le_refl _) FP_7.out (hb2)
  have FC_15 : Hid ((w2).heap[w1.heap.size]? = some (.cells #[.int .i64 pc, .slice qs n cp] 27)) := row_on FC_9.out (hb2)
  have FA_16 : Hid ((w2).heap[w1.heap.size + 1]? = some (.cells #[.slice (some ⟨ga, 0, none⟩) m 64] 38)) := row_on FA_10.out (hb2)
  have FG_17 : Hid ((w2).heap[w1.heap.size + 1 + 1]? = some (.cells #[.int .i64 f, .int .i64 s] 46)) := row_on FG_11.out (hb2)
  clear FW_6 FP_7 FC_9 FA_10 FG_11
  have FS2_18 : Hid (OwnN (w2) ((((w1.alloc (.cells #[.int .i64 pc, .slice qs n cp] 27)).alloc (.cells #[.slice (some ⟨ga, 0, none⟩) m 64] 38)).alloc (.cells #[.int .i64 f, .int .i64 s] 46))).heap.size gs2 N cs2 R.st) := hs2
  have FL2_19 : Hid (OwnN (w2) ((((w1.alloc (.cells #[.int .i64 pc, .slice qs n cp] 27)).alloc (.cells #[.slice (some ⟨ga, 0, none⟩) m 64] 38)).alloc (.cells #[.int .i64 f, .int .i64 s] 46))).heap.size ga2 m ca2 R.ce) := ha2
  clear hs2 ha2 hne2 hb2
  have N_20 : Hid ((w2).heap.size ≤ ((((w2.alloc (.cells #[.int .i64 R.pc, .slice (some ⟨gs2, 0, none⟩) N cs2] 27)).alloc (.cells #[.slice (some ⟨ga2, 0, none⟩) m ca2] 38)).alloc (.cells #[.int .i64 R.k, .int .i64 R.po, .int .i64 R.nu, .int .i64 R.tr] 40))).heap.size) := (al3_b w2 (.cells #[.int .i64 R.pc, .slice (some ⟨gs2, 0, none⟩) N cs2] 27) (.cells #[.slice (some ⟨ga2, 0, none⟩) m ca2] 38) (.cells #[.int .i64 R.k, .int .i64 R.po, .int .i64 R.nu, .int .i64 R.tr] 40)).size
  have FW_21 : Hid (Below w0.heap.size w0 ((((w2.alloc (.cells #[.int .i64 R.pc, .slice (some ⟨gs2, 0, none⟩) N cs2] 27)).alloc (.cells #[.slice (some ⟨ga2, 0, none⟩) m ca2] 38)).alloc (.cells #[.int .i64 R.k, .int .i64 R.po, .int .i64 R.nu, .int .i64 R.tr] 40)))) := bel_on (Nat.le_refl _) FW_13.out (al3_b w2 (.cells #[.int .i64 R.pc, .slice (some ⟨gs2, 0, none⟩) N cs2] 27) (.cells #[.slice (some ⟨ga2, 0, none⟩) m ca2] 38) (.cells #[.int .i64 R.k, .int .i64 R.po, .int .i64 R.nu, .int .i64 R.tr] 40))
  have FP_22 : Hid (Below w1.heap.size w1 ((((w2.alloc (.cells #[.int .i64 R.pc, .slice (some ⟨gs2, 0, none⟩) N cs2] 27)).alloc (.cells #[.slice (some ⟨ga2, 0, none⟩) m ca2] 38)).alloc (.cells #[.int .i64 R.k, .int .i64 R.po, .int .i64 R.nu, .int .i64 R.tr] 40)))) := bel_on (Nat.le_refl _) FP_14.out (al3_b w2 (.cells #[.int .i64 R.pc, .slice (some ⟨gs2, 0, none⟩) N cs2] 27) (.cells #[.slice (some ⟨ga2, 0, none⟩) m ca2] 38) (.cells #[.int .i64 R.k, .int .i64 R.po, .int .i64 R.nu, .int .i64 R.tr] 40))
  have FC_23 : Hid (((((w2.alloc (.cells #[.int .i64 R.pc, .slice (some ⟨gs2, 0, none⟩) N cs2] 27)).alloc (.cells #[.slice (some ⟨ga2, 0, none⟩) m ca2] 38)).alloc (.cells #[.int .i64 R.k, .int .i64 R.po, .int .i64 R.nu, .int .i64 R.tr] 40))).heap[w1.heap.size]? = some (.cells #[.int .i64 pc, .slice qs n cp] 27)) := row_on FC_15.out (al3_b w2 (.cells #[.int .i64 R.pc, .slice (some ⟨gs2, 0, none⟩) N cs2] 27) (.cells #[.slice (some ⟨ga2, 0, none⟩) m ca2] 38) (.cells #[.int .i64 R.k, .int .i64 R.po, .int .i64 R.nu, .int .i64 R.tr] 40))
  have FA_24 : Hid (((((w2.alloc (.cells #[.int .i64 R.pc, .slice (some ⟨gs2, 0, none⟩) N cs2] 27)).alloc (.cells #[.slice (some ⟨ga2, 0, none⟩) m ca2] 38)).alloc (.cells #[.int .i64 R.k, .int .i64 R.po, .int .i64 R.nu, .int .i64 R.tr] 40))).heap[w1.heap.size + 1]? = some (.cells #[.slice (some ⟨ga, 0, none⟩) m 64] 38)) := row_on FA_16.out (al3_b w2 (.cells #[.int .i64 R.pc, .slice (some ⟨gs2, 0, none⟩) N cs2] 27) (.cells #[.slice (some ⟨ga2, 0, none⟩) m ca2] 38) (.cells #[.int .i64 R.k, .int .i64 R.po, .int .i64 R.nu, .int .i64 R.tr] 40))
  have FG_25 : Hid (((((w2.alloc (.cells #[.int .i64 R.pc, .slice (some ⟨gs2, 0, none⟩) N cs2] 27)).alloc (.cells #[.slice (some ⟨ga2, 0, none⟩) m ca2] 38)).alloc (.cells #[.int .i64 R.k, .int .i64 R.po, .int .i64 R.nu, .int .i64 R.tr] 40))).heap[w1.heap.size + 1 + 1]? = some (.cells #[.int .i64 f, .int .i64 s] 46)) := row_on FG_17.out (al3_b w2 (.cells #[.int .i64 R.pc, .slice (some ⟨gs2, 0, none⟩) N cs2] 27) (.cells #[.slice (some ⟨ga2, 0, none⟩) m ca2] 38) (.cells #[.int .i64 R.k, .int .i64 R.po, .int .i64 R.nu, .int .i64 R.tr] 40))
  have FS2_26 : Hid (OwnN ((((w2.alloc (.cells #[.int .i64 R.pc, .slice (some ⟨gs2, 0, none⟩) N cs2] 27)).alloc (.cells #[.slice (some ⟨ga2, 0, none⟩) m ca2] 38)).alloc (.cells #[.int .i64 R.k, .int .i64 R.po, .int .i64 R.nu, .int .i64 R.tr] 40))) ((((w1.alloc (.cells #[.int .i64 pc, .slice qs n cp] 27)).alloc (.cells #[.slice (some ⟨ga, 0, none⟩) m 64] 38)).alloc (.cells #[.int .i64 f, .int .i64 s] 46))).heap.size gs2 N cs2 R.st) := FS2_18.out.on (al3_b w2 (.cells #[.int .i64 R.pc, .slice (some ⟨gs2, 0, none⟩) N cs2] 27) (.cells #[.slice (some ⟨ga2, 0, none⟩) m ca2] 38) (.cells #[.int .i64 R.k, .int .i64 R.po, .int .i64 R.nu, .int .i64 R.tr] 40))
  have FL2_27 : Hid (OwnN ((((w2.alloc (.cells #[.int .i64 R.pc, .slice (some ⟨gs2, 0, none⟩) N cs2] 27)).alloc (.cells #[.slice (some ⟨ga2, 0, none⟩) m ca2] 38)).alloc (.cells #[.int .i64 R.k, .int .i64 R.po, .int .i64 R.nu, .int .i64 R.tr] 40))) ((((w1.alloc (.cells #[.int .i64 pc, .slice qs n cp] 27)).alloc (.cells #[.slice (some ⟨ga, 0, none⟩) m 64] 38)).alloc (.cells #[.int .i64 f, .int .i64 s] 46))).heap.size ga2 m ca2 R.ce) := FL2_19.out.on (al3_b w2 (.cells #[.int .i64 R.pc, .slice (some ⟨gs2, 0, none⟩) N cs2] 27) (.cells #[.slice (some ⟨ga2, 0, none⟩) m ca2] 38) (.cells #[.int .i64 R.k, .int .i64 R.po, .int .i64 R.nu, .int .i64 R.tr] 40))
  clear FW_13 FP_14 FC_15 FA_16 FG_17 FS2_18 FL2_19
  have N_28 : Hid ((((w2.alloc (.cells #[.int .i64 R.pc, .slice (some ⟨gs2, 0, none⟩) N cs2] 27)).alloc (.cells #[.slice (some ⟨ga2, 0, none⟩) m ca2] 38)).alloc (.cells #[.int .i64 R.k, .int .i64 R.po, .int .i64 R.nu, .int .i64 R.tr] 40)).heap.size = w2.heap.size + 3) := al3_s w2 (.cells #[.int .i64 R.pc, .slice (some ⟨gs2, 0, none⟩) N cs2] 27) (.cells #[.slice (some ⟨ga2, 0, none⟩) m ca2] 38) (.cells #[.int .i64 R.k, .int .i64 R.po, .int .i64 R.nu, .int .i64 R.tr] 40)
  have FX2_29 : Hid (((((w2.alloc (.cells #[.int .i64 R.pc, .slice (some ⟨gs2, 0, none⟩) N cs2] 27)).alloc (.cells #[.slice (some ⟨ga2, 0, none⟩) m ca2] 38)).alloc (.cells #[.int .i64 R.k, .int .i64 R.po, .int .i64 R.nu, .int .i64 R.tr] 40))).heap[w2.heap.size]? = some (.cells #[.int .i64 R.pc, .slice (some ⟨gs2, 0, none⟩) N cs2] 27)) := al3_1 w2 (.cells #[.int .i64 R.pc, .slice (some ⟨gs2, 0, none⟩) N cs2] 27) (.cells #[.slice (some ⟨ga2, 0, none⟩) m ca2] 38) (.cells #[.int .i64 R.k, .int .i64 R.po, .int .i64 R.nu, .int .i64 R.tr] 40)
  have FY2_30 : Hid (((((w2.alloc (.cells #[.int .i64 R.pc, .slice (some ⟨gs2, 0, none⟩) N cs2] 27)).alloc (.cells #[.slice (some ⟨ga2, 0, none⟩) m ca2] 38)).alloc (.cells #[.int .i64 R.k, .int .i64 R.po, .int .i64 R.nu, .int .i64 R.tr] 40))).heap[w2.heap.size + 1]? = some (.cells #[.slice (some ⟨ga2, 0, none⟩) m ca2] 38)) := al3_2 w2 (.cells #[.int .i64 R.pc, .slice (some ⟨gs2, 0, none⟩) N cs2] 27) (.cells #[.slice (some ⟨ga2, 0, none⟩) m ca2] 38) (.cells #[.int .i64 R.k, .int .i64 R.po, .int .i64 R.nu, .int .i64 R.tr] 40)
  have FE2_31 : Hid (((((w2.alloc (.cells #[.int .i64 R.pc, .slice (some ⟨gs2, 0, none⟩) N cs2] 27)).alloc (.cells #[.slice (some ⟨ga2, 0, none⟩) m ca2] 38)).alloc (.cells #[.int .i64 R.k, .int .i64 R.po, .int .i64 R.nu, .int .i64 R.tr] 40))).heap[w2.heap.size + 1 + 1]? = some (.cells #[.int .i64 R.k, .int .i64 R.po, .int .i64 R.nu, .int .i64 R.tr] 40)) := al3_3 w2 (.cells #[.int .i64 R.pc, .slice (some ⟨gs2, 0, none⟩) N cs2] 27) (.cells #[.slice (some ⟨ga2, 0, none⟩) m ca2] 38) (.cells #[.int .i64 R.k, .int .i64 R.po, .int .i64 R.nu, .int .i64 R.tr] 40)
  clear kC kA kG
  have kC := row2_cells FC_23.out
  have kA := row1_cells FA_24.out
  have kG := row2_cells FG_25.out
  go_wp2_with fail
  refine (stepS qs pc st n cp qc rl nc cc ⟨ga, 0, none⟩ ce m 64 f s t b R N HL.out hn HQS.out hncp HLC.out hnc HLA.out hm HB.out HRR.out HNN.out _ (HR.out.on FP_22.out) (HRC.out.on FP_22.out) (HRA.out.on FP_22.out)).mono ?_
  rintro e w3 ⟨gs3, cs3, ga3, ca3, rfl, hs3, ha3, hne3, hb3⟩
  have N_32 : Hid (((((w2.alloc (.cells #[.int .i64 R.pc, .slice (some ⟨gs2, 0, none⟩) N cs2] 27)).alloc (.cells #[.slice (some ⟨ga2, 0, none⟩) m ca2] 38)).alloc (.cells #[.int .i64 R.k, .int .i64 R.po, .int .i64 R.nu, .int .i64 R.tr] 40))).heap.size ≤ (w3).heap.size) := (hb3).size
  have FW_33 : Hid (Below w0.heap.size w0 (w3)) := bel_on (Nat.le_refl _) FW_21.out (hb3)
  have FP_34 : Hid (Below w1.heap.size w1 (w3)) := bel_on (Nat.le_refl _) FP_22.out (hb3)
  have FC_35 : Hid ((w3).heap[w1.heap.size]? = some (.cells #[.int .i64 pc, .slice qs n cp] 27)) := row_on FC_23.out (hb3)
  have FA_36 : Hid ((w3).heap[w1.heap.size + 1]? = some (.cells #[.slice (some ⟨ga, 0, none⟩) m 64] 38)) := row_on FA_24.out (hb3)
  have FG_37 : Hid ((w3).heap[w1.heap.size + 1 + 1]? = some (.cells #[.int .i64 f, .int .i64 s] 46)) := row_on FG_25.out (hb3)
  have FS2_38 : Hid (OwnN (w3) ((((w1.alloc (.cells #[.int .i64 pc, .slice qs n cp] 27)).alloc (.cells #[.slice (some ⟨ga, 0, none⟩) m 64] 38)).alloc (.cells #[.int .i64 f, .int .i64 s] 46))).heap.size gs2 N cs2 R.st) := FS2_26.out.on (hb3)
  have FL2_39 : Hid (OwnN (w3) ((((w1.alloc (.cells #[.int .i64 pc, .slice qs n cp] 27)).alloc (.cells #[.slice (some ⟨ga, 0, none⟩) m 64] 38)).alloc (.cells #[.int .i64 f, .int .i64 s] 46))).heap.size ga2 m ca2 R.ce) := FL2_27.out.on (hb3)
  have FX2_40 : Hid ((w3).heap[w2.heap.size]? = some (.cells #[.int .i64 R.pc, .slice (some ⟨gs2, 0, none⟩) N cs2] 27)) := row_on FX2_29.out (hb3)
  have FY2_41 : Hid ((w3).heap[w2.heap.size + 1]? = some (.cells #[.slice (some ⟨ga2, 0, none⟩) m ca2] 38)) := row_on FY2_30.out (hb3)
  have FE2_42 : Hid ((w3).heap[w2.heap.size + 1 + 1]? = some (.cells #[.int .i64 R.k, .int .i64 R.po, .int .i64 R.nu, .int .i64 R.tr] 40)) := row_on FE2_31.out (hb3)
  clear FW_21 FP_22 FC_23 FA_24 FG_25 FS2_26 FL2_27 FX2_29 FY2_30 FE2_31
  have FS3_43 : Hid (OwnN (w3) ((((w2.alloc (.cells #[.int .i64 R.pc, .slice (some ⟨gs2, 0, none⟩) N cs2] 27)).alloc (.cells #[.slice (some ⟨ga2, 0, none⟩) m ca2] 38)).alloc (.cells #[.int .i64 R.k, .int .i64 R.po, .int .i64 R.nu, .int .i64 R.tr] 40))).heap.size gs3 N cs3 R.st) := hs3
  have FL3_44 : Hid (OwnN (w3) ((((w2.alloc (.cells #[.int .i64 R.pc, .slice (some ⟨gs2, 0, none⟩) N cs2] 27)).alloc (.cells #[.slice (some ⟨ga2, 0, none⟩) m ca2] 38)).alloc (.cells #[.int .i64 R.k, .int .i64 R.po, .int .i64 R.nu, .int .i64 R.tr] 40))).heap.size ga3 m ca3 R.ce) := ha3
  clear hs3 ha3 hne3 hb3
  have N_45 : Hid ((w3).heap.size ≤ ((((w3.alloc (.cells #[.int .i64 R.pc, .slice (some ⟨gs3, 0, none⟩) N cs3] 27)).alloc (.cells #[.slice (some ⟨ga3, 0, none⟩) m ca3] 38)).alloc (.cells #[.int .i64 R.k, .int .i64 R.po, .int .i64 R.nu, .int .i64 R.tr] 40))).heap.size) := (al3_b w3 (.cells #[.int .i64 R.pc, .slice (some ⟨gs3, 0, none⟩) N cs3] 27) (.cells #[.slice (some ⟨ga3, 0, none⟩) m ca3] 38) (.cells #[.int .i64 R.k, .int .i64 R.po, .int .i64 R.nu, .int .i64 R.tr] 40)).size
  have FW_46 : Hid (Below w0.heap.size w0 ((((w3.alloc (.cells #[.int .i64 R.pc, .slice (some ⟨gs3, 0, none⟩) N cs3] 27)).alloc (.cells #[.slice (some ⟨ga3, 0, none⟩) m ca3] 38)).alloc (.cells #[.int .i64 R.k, .int .i64 R.po, .int .i64 R.nu, .int .i64 R.tr] 40)))) := bel_on (Nat.le_refl _) FW_33.out (al3_b w3 (.cells #[.int .i64 R.pc, .slice (some ⟨gs3, 0, none⟩) N cs3] 27) (.cells #[.slice (some ⟨ga3, 0, none⟩) m ca3] 38) (.cells #[.int .i64 R.k, .int .i64 R.po, .int .i64 R.nu, .int .i64 R.tr] 40))
  have FP_47 : Hid (Below w1.heap.size w1 ((((w3.alloc (.cells #[.int .i64 R.pc, .slice (some ⟨gs3, 0, none⟩) N cs3] 27)).alloc (.cells #[.slice (some ⟨ga3, 0, none⟩) m ca3] 38)).alloc (.cells #[.int .i64 R.k, .int .i64 R.po, .int .i64 R.nu, .int .i64 R.tr] 40)))) := bel_on (Nat.le_refl _) FP_34.out (al3_b w3 (.cells #[.int .i64 R.pc, .slice (some ⟨gs3, 0, none⟩) N cs3] 27) (.cells #[.slice (some ⟨ga3, 0, none⟩) m ca3] 38) (.cells #[.int .i64 R.k, .int .i64 R.po, .int .i64 R.nu, .int .i64 R.tr] 40))
  have FC_48 : Hid (((((w3.alloc (.cells #[.int .i64 R.pc, .slice (some ⟨gs3, 0, none⟩) N cs3] 27)).alloc (.cells #[.slice (some ⟨ga3, 0, none⟩) m ca3] 38)).alloc (.cells #[.int .i64 R.k, .int .i64 R.po, .int .i64 R.nu, .int .i64 R.tr] 40))).heap[w1.heap.size]? = some (.cells #[.int .i64 pc, .slice qs n cp] 27)) := row_on FC_35.out (al3_b w3 (.cells #[.int .i64 R.pc, .slice (some ⟨gs3, 0, none⟩) N cs3] 27) (.cells #[.slice (some ⟨ga3, 0, none⟩) m ca3] 38) (.cells #[.int .i64 R.k, .int .i64 R.po, .int .i64 R.nu, .int .i64 R.tr] 40))
  have FA_49 : Hid (((((w3.alloc (.cells #[.int .i64 R.pc, .slice (some ⟨gs3, 0, none⟩) N cs3] 27)).alloc (.cells #[.slice (some ⟨ga3, 0, none⟩) m ca3] 38)).alloc (.cells #[.int .i64 R.k, .int .i64 R.po, .int .i64 R.nu, .int .i64 R.tr] 40))).heap[w1.heap.size + 1]? = some (.cells #[.slice (some ⟨ga, 0, none⟩) m 64] 38)) := row_on FA_36.out (al3_b w3 (.cells #[.int .i64 R.pc, .slice (some ⟨gs3, 0, none⟩) N cs3] 27) (.cells #[.slice (some ⟨ga3, 0, none⟩) m ca3] 38) (.cells #[.int .i64 R.k, .int .i64 R.po, .int .i64 R.nu, .int .i64 R.tr] 40))
  have FG_50 : Hid (((((w3.alloc (.cells #[.int .i64 R.pc, .slice (some ⟨gs3, 0, none⟩) N cs3] 27)).alloc (.cells #[.slice (some ⟨ga3, 0, none⟩) m ca3] 38)).alloc (.cells #[.int .i64 R.k, .int .i64 R.po, .int .i64 R.nu, .int .i64 R.tr] 40))).heap[w1.heap.size + 1 + 1]? = some (.cells #[.int .i64 f, .int .i64 s] 46)) := row_on FG_37.out (al3_b w3 (.cells #[.int .i64 R.pc, .slice (some ⟨gs3, 0, none⟩) N cs3] 27) (.cells #[.slice (some ⟨ga3, 0, none⟩) m ca3] 38) (.cells #[.int .i64 R.k, .int .i64 R.po, .int .i64 R.nu, .int .i64 R.tr] 40))
  have FS2_51 : Hid (OwnN ((((w3.alloc (.cells #[.int .i64 R.pc, .slice (some ⟨gs3, 0, none⟩) N cs3] 27)).alloc (.cells #[.slice (some ⟨ga3, 0, none⟩) m ca3] 38)).alloc (.cells #[.int .i64 R.k, .int .i64 R.po, .int .i64 R.nu, .int .i64 R.tr] 40))) ((((w1.alloc (.cells #[.int .i64 pc, .slice qs n cp] 27)).alloc (.cells #[.slice (some ⟨ga, 0, none⟩) m 64] 38)).alloc (.cells #[.int .i64 f, .int .i64 s] 46))).heap.size gs2 N cs2 R.st) := FS2_38.out.on (al3_b w3 (.cells #[.int .i64 R.pc, .slice (some ⟨gs3, 0, none⟩) N cs3] 27) (.cells #[.slice (some ⟨ga3, 0, none⟩) m ca3] 38) (.cells #[.int .i64 R.k, .int .i64 R.po, .int .i64 R.nu, .int .i64 R.tr] 40))
  have FL2_52 : Hid (OwnN ((((w3.alloc (.cells #[.int .i64 R.pc, .slice (some ⟨gs3, 0, none⟩) N cs3] 27)).alloc (.cells #[.slice (some ⟨ga3, 0, none⟩) m ca3] 38)).alloc (.cells #[.int .i64 R.k, .int .i64 R.po, .int .i64 R.nu, .int .i64 R.tr] 40))) ((((w1.alloc (.cells #[.int .i64 pc, .slice qs n cp] 27)).alloc (.cells #[.slice (some ⟨ga, 0, none⟩) m 64] 38)).alloc (.cells #[.int .i64 f, .int .i64 s] 46))).heap.size ga2 m ca2 R.ce) := FL2_39.out.on (al3_b w3 (.cells #[.int .i64 R.pc, .slice (some ⟨gs3, 0, none⟩) N cs3] 27) (.cells #[.slice (some ⟨ga3, 0, none⟩) m ca3] 38) (.cells #[.int .i64 R.k, .int .i64 R.po, .int .i64 R.nu, .int .i64 R.tr] 40))
  have FX2_53 : Hid (((((w3.alloc (.cells #[.int .i64 R.pc, .slice (some ⟨gs3, 0, none⟩) N cs3] 27)).alloc (.cells #[.slice (some ⟨ga3, 0, none⟩) m ca3] 38)).alloc (.cells #[.int .i64 R.k, .int .i64 R.po, .int .i64 R.nu, .int .i64 R.tr] 40))).heap[w2.heap.size]? = some (.cells #[.int .i64 R.pc, .slice (some ⟨gs2, 0, none⟩) N cs2] 27)) := row_on FX2_40.out (al3_b w3 (.cells #[.int .i64 R.pc, .slice (some ⟨gs3, 0, none⟩) N cs3] 27) (.cells #[.slice (some ⟨ga3, 0, none⟩) m ca3] 38) (.cells #[.int .i64 R.k, .int .i64 R.po, .int .i64 R.nu, .int .i64 R.tr] 40))
  have FY2_54 : Hid (((((w3.alloc (.cells #[.int .i64 R.pc, .slice (some ⟨gs3, 0, none⟩) N cs3] 27)).alloc (.cells #[.slice (some ⟨ga3, 0, none⟩) m ca3] 38)).alloc (.cells #[.int .i64 R.k, .int .i64 R.po, .int .i64 R.nu, .int .i64 R.tr] 40))).heap[w2.heap.size + 1]? = some (.cells #[.slice (some ⟨ga2, 0, none⟩) m ca2] 38)) := row_on FY2_41.out (al3_b w3 (.cells #[.int .i64 R.pc, .slice (some ⟨gs3, 0, none⟩) N cs3] 27) (.cells #[.slice (some ⟨ga3, 0, none⟩) m ca3] 38) (.cells #[.int .i64 R.k, .int .i64 R.po, .int .i64 R.nu, .int .i64 R.tr] 40))
  have FE2_55 : Hid (((((w3.alloc (.cells #[.int .i64 R.pc, .slice (some ⟨gs3, 0, none⟩) N cs3] 27)).alloc (.cells #[.slice (some ⟨ga3, 0, none⟩) m ca3] 38)).alloc (.cells #[.int .i64 R.k, .int .i64 R.po, .int .i64 R.nu, .int .i64 R.tr] 40))).heap[w2.heap.size + 1 + 1]? = some (.cells #[.int .i64 R.k, .int .i64 R.po, .int .i64 R.nu, .int .i64 R.tr] 40)) := row_on FE2_42.out (al3_b w3 (.cells #[.int .i64 R.pc, .slice (some ⟨gs3, 0, none⟩) N cs3] 27) (.cells #[.slice (some ⟨ga3, 0, none⟩) m ca3] 38) (.cells #[.int .i64 R.k, .int .i64 R.po, .int .i64 R.nu, .int .i64 R.tr] 40))
  have FS3_56 : Hid (OwnN ((((w3.alloc (.cells #[.int .i64 R.pc, .slice (some ⟨gs3, 0, none⟩) N cs3] 27)).alloc (.cells #[.slice (some ⟨ga3, 0, none⟩) m ca3] 38)).alloc (.cells #[.int .i64 R.k, .int .i64 R.po, .int .i64 R.nu, .int .i64 R.tr] 40))) ((((w2.alloc (.cells #[.int .i64 R.pc, .slice (some ⟨gs2, 0, none⟩) N cs2] 27)).alloc (.cells #[.slice (some ⟨ga2, 0, none⟩) m ca2] 38)).alloc (.cells #[.int .i64 R.k, .int .i64 R.po, .int .i64 R.nu, .int .i64 R.tr] 40))).heap.size gs3 N cs3 R.st) := FS3_43.out.on (al3_b w3 (.cells #[.int .i64 R.pc, .slice (some ⟨gs3, 0, none⟩) N cs3] 27) (.cells #[.slice (some ⟨ga3, 0, none⟩) m ca3] 38) (.cells #[.int .i64 R.k, .int .i64 R.po, .int .i64 R.nu, .int .i64 R.tr] 40))
  have FL3_57 : Hid (OwnN ((((w3.alloc (.cells #[.int .i64 R.pc, .slice (some ⟨gs3, 0, none⟩) N cs3] 27)).alloc (.cells #[.slice (some ⟨ga3, 0, none⟩) m ca3] 38)).alloc (.cells #[.int .i64 R.k, .int .i64 R.po, .int .i64 R.nu, .int .i64 R.tr] 40))) ((((w2.alloc (.cells #[.int .i64 R.pc, .slice (some ⟨gs2, 0, none⟩) N cs2] 27)).alloc (.cells #[.slice (some ⟨ga2, 0, none⟩) m ca2] 38)).alloc (.cells #[.int .i64 R.k, .int .i64 R.po, .int .i64 R.nu, .int .i64 R.tr] 40))).heap.size ga3 m ca3 R.ce) := FL3_44.out.on (al3_b w3 (.cells #[.int .i64 R.pc, .slice (some ⟨gs3, 0, none⟩) N cs3] 27) (.cells #[.slice (some ⟨ga3, 0, none⟩) m ca3] 38) (.cells #[.int .i64 R.k, .int .i64 R.po, .int .i64 R.nu, .int .i64 R.tr] 40))
  clear FW_33 FP_34 FC_35 FA_36 FG_37 FS2_38 FL2_39 FX2_40 FY2_41 FE2_42 FS3_43 FL3_44
  have N_58 : Hid ((((w3.alloc (.cells #[.int .i64 R.pc, .slice (some ⟨gs3, 0, none⟩) N cs3] 27)).alloc (.cells #[.slice (some ⟨ga3, 0, none⟩) m ca3] 38)).alloc (.cells #[.int .i64 R.k, .int .i64 R.po, .int .i64 R.nu, .int .i64 R.tr] 40)).heap.size = w3.heap.size + 3) := al3_s w3 (.cells #[.int .i64 R.pc, .slice (some ⟨gs3, 0, none⟩) N cs3] 27) (.cells #[.slice (some ⟨ga3, 0, none⟩) m ca3] 38) (.cells #[.int .i64 R.k, .int .i64 R.po, .int .i64 R.nu, .int .i64 R.tr] 40)
  have FX3_59 : Hid (((((w3.alloc (.cells #[.int .i64 R.pc, .slice (some ⟨gs3, 0, none⟩) N cs3] 27)).alloc (.cells #[.slice (some ⟨ga3, 0, none⟩) m ca3] 38)).alloc (.cells #[.int .i64 R.k, .int .i64 R.po, .int .i64 R.nu, .int .i64 R.tr] 40))).heap[w3.heap.size]? = some (.cells #[.int .i64 R.pc, .slice (some ⟨gs3, 0, none⟩) N cs3] 27)) := al3_1 w3 (.cells #[.int .i64 R.pc, .slice (some ⟨gs3, 0, none⟩) N cs3] 27) (.cells #[.slice (some ⟨ga3, 0, none⟩) m ca3] 38) (.cells #[.int .i64 R.k, .int .i64 R.po, .int .i64 R.nu, .int .i64 R.tr] 40)
  have FY3_60 : Hid (((((w3.alloc (.cells #[.int .i64 R.pc, .slice (some ⟨gs3, 0, none⟩) N cs3] 27)).alloc (.cells #[.slice (some ⟨ga3, 0, none⟩) m ca3] 38)).alloc (.cells #[.int .i64 R.k, .int .i64 R.po, .int .i64 R.nu, .int .i64 R.tr] 40))).heap[w3.heap.size + 1]? = some (.cells #[.slice (some ⟨ga3, 0, none⟩) m ca3] 38)) := al3_2 w3 (.cells #[.int .i64 R.pc, .slice (some ⟨gs3, 0, none⟩) N cs3] 27) (.cells #[.slice (some ⟨ga3, 0, none⟩) m ca3] 38) (.cells #[.int .i64 R.k, .int .i64 R.po, .int .i64 R.nu, .int .i64 R.tr] 40)
  have FE3_61 : Hid (((((w3.alloc (.cells #[.int .i64 R.pc, .slice (some ⟨gs3, 0, none⟩) N cs3] 27)).alloc (.cells #[.slice (some ⟨ga3, 0, none⟩) m ca3] 38)).alloc (.cells #[.int .i64 R.k, .int .i64 R.po, .int .i64 R.nu, .int .i64 R.tr] 40))).heap[w3.heap.size + 1 + 1]? = some (.cells #[.int .i64 R.k, .int .i64 R.po, .int .i64 R.nu, .int .i64 R.tr] 40)) := al3_3 w3 (.cells #[.int .i64 R.pc, .slice (some ⟨gs3, 0, none⟩) N cs3] 27) (.cells #[.slice (some ⟨ga3, 0, none⟩) m ca3] 38) (.cells #[.int .i64 R.k, .int .i64 R.po, .int .i64 R.nu, .int .i64 R.tr] 40)
  clear kC kA kG
  go_wp2_with fail
  generalize hW3 : (((w3.alloc (.cells #[.int .i64 R.pc, .slice (some ⟨gs3, 0, none⟩) N cs3] 27)).alloc (.cells #[.slice (some ⟨ga3, 0, none⟩) m ca3] 38)).alloc (.cells #[.int .i64 R.k, .int .i64 R.po, .int .i64 R.nu, .int .i64 R.tr] 40)) = W3 at *
  clear hW3
  have HQ : Hid (W3.cell? ⟨w2.heap.size, 0, none⟩ = some (.int .i64 R.pc) ∧ W3.cell? ⟨w2.heap.size, 1, none⟩ = some (.slice (some ⟨gs2, 0, none⟩) N cs2) ∧ W3.cell? ⟨w3.heap.size, 0, none⟩ = some (.int .i64 R.pc) ∧ W3.cell? ⟨w3.heap.size, 1, none⟩ = some (.slice (some ⟨gs3, 0, none⟩) N cs3) ∧ W3.cell? ⟨w2.heap.size + 1, 0, none⟩ = some (.slice (some ⟨ga2, 0, none⟩) m ca2) ∧ W3.cell? ⟨w3.heap.size + 1, 0, none⟩ = some (.slice (some ⟨ga3, 0, none⟩) m ca3) ∧ W3.cell? ⟨w2.heap.size + 1 + 1, 0, none⟩ = some (.int .i64 R.k) ∧ W3.cell? ⟨w2.heap.size + 1 + 1, 1, none⟩ = some (.int .i64 R.po) ∧ W3.cell? ⟨w2.heap.size + 1 + 1, 2, none⟩ = some (.int .i64 R.nu) ∧ W3.cell? ⟨w2.heap.size + 1 + 1, 3, none⟩ = some (.int .i64 R.tr) ∧ W3.cell? ⟨w3.heap.size + 1 + 1, 0, none⟩ = some (.int .i64 R.k) ∧ W3.cell? ⟨w3.heap.size + 1 + 1, 1, none⟩ = some (.int .i64 R.po) ∧ W3.cell? ⟨w3.heap.size + 1 + 1, 2, none⟩ = some (.int .i64 R.nu) ∧ W3.cell? ⟨w3.heap.size + 1 + 1, 3, none⟩ = some (.int .i64 R.tr) ∧ W3.cell? ⟨w1.heap.size, 0, none⟩ = some (.int .i64 pc) ∧ W3.cell? ⟨w1.heap.size, 1, none⟩ = some (.slice qs n cp)) := ⟨(row2_cells FX2_53.out).1, (row2_cells FX2_53.out).2.1, (row2_cells FX3_59.out).1, (row2_cells FX3_59.out).2.1, (row1_cells FY2_54.out).1, (row1_cells FY3_60.out).1, (row4_cells FE2_55.out).1, (row4_cells FE2_55.out).2.1, (row4_cells FE2_55.out).2.2.1, (row4_cells FE2_55.out).2.2.2.1, (row4_cells FE3_61.out).1, (row4_cells FE3_61.out).2.1, (row4_cells FE3_61.out).2.2.1, (row4_cells FE3_61.out).2.2.2.1, (row2_cells FC_48.out).1, (row2_cells FC_48.out).2.1⟩
  have HRc : Hid (Rd W3 qs st) := HR.out.on FP_47.out
  have HRS2 : Hid (Rd W3 (some ⟨gs2, 0, none⟩) R.st) := (FS2_51.out).rd
  have HRS3 : Hid (Rd W3 (some ⟨gs3, 0, none⟩) R.st) := (FS3_56.out).rd
  have HRL2 : Hid (Rd W3 (some ⟨ga2, 0, none⟩) R.ce) := (FL2_52.out).rd
  have HRL3 : Hid (Rd W3 (some ⟨ga3, 0, none⟩) R.ce) := (FL3_57.out).rd
  go_region_held3 (fun w' => w'.cell? ⟨w2.heap.size, 0, none⟩ = some (.int .i64 R.pc) ∧ w'.cell? ⟨w2.heap.size, 1, none⟩ = some (.slice (some ⟨gs2, 0, none⟩) N cs2) ∧ w'.cell? ⟨w3.heap.size, 0, none⟩ = some (.int .i64 R.pc) ∧ w'.cell? ⟨w3.heap.size, 1, none⟩ = some (.slice (some ⟨gs3, 0, none⟩) N cs3) ∧ w'.cell? ⟨w2.heap.size + 1, 0, none⟩ = some (.slice (some ⟨ga2, 0, none⟩) m ca2) ∧ w'.cell? ⟨w3.heap.size + 1, 0, none⟩ = some (.slice (some ⟨ga3, 0, none⟩) m ca3) ∧ w'.cell? ⟨w2.heap.size + 1 + 1, 0, none⟩ = some (.int .i64 R.k) ∧ w'.cell? ⟨w2.heap.size + 1 + 1, 1, none⟩ = some (.int .i64 R.po) ∧ w'.cell? ⟨w2.heap.size + 1 + 1, 2, none⟩ = some (.int .i64 R.nu) ∧ w'.cell? ⟨w2.heap.size + 1 + 1, 3, none⟩ = some (.int .i64 R.tr) ∧ w'.cell? ⟨w3.heap.size + 1 + 1, 0, none⟩ = some (.int .i64 R.k) ∧ w'.cell? ⟨w3.heap.size + 1 + 1, 1, none⟩ = some (.int .i64 R.po) ∧ w'.cell? ⟨w3.heap.size + 1 + 1, 2, none⟩ = some (.int .i64 R.nu) ∧ w'.cell? ⟨w3.heap.size + 1 + 1, 3, none⟩ = some (.int .i64 R.tr) ∧ w'.cell? ⟨w1.heap.size, 0, none⟩ = some (.int .i64 pc) ∧ w'.cell? ⟨w1.heap.size, 1, none⟩ = some (.slice qs n cp) ∧ Below W3.heap.size W3 w') (first | (with_reducible exact qq_keep HQ.out HBz4.out) | (with_reducible exact qq_keep HQ.out HBz3.out) | (with_reducible exact qq_keep HQ.out HBz2.out) | (with_reducible exact qq_keep HQ.out HBz1.out) | (with_reducible exact qq_keep HQ.out (qq_on (by assumption) (by assumption))) | (with_reducible exact qq_keep HQ.out (Below.refl _ _).drew)) (first | (go_at_call 35; refine (sameC (some ⟨gs2, 0, none⟩) (some ⟨gs3, 0, none⟩) R.pc R.st N cs2 cs3 HNN.out hN1 _ ?_ ?_).mono ?_; (with_reducible exact HRS2.out.on (qq_bel (by assumption))); (with_reducible exact HRS3.out.on (qq_bel (by assumption))); rintro e wz1 ⟨rfl, hz1⟩; have HBz1 : Hid (Below W3.heap.size W3 wz1) := hid (by with_reducible exact qq_on hz1 (by assumption))) | (go_at_call 36; refine (sameI (some ⟨ga2, 0, none⟩) (some ⟨ga3, 0, none⟩) R.ce m ca2 ca3 HCE.out hm _ ?_ ?_).mono ?_; (with_reducible exact HRL2.out.on (qq_bel (by assumption))); (with_reducible exact HRL3.out.on (qq_bel (by assumption))); rintro e wz2 ⟨rfl, hz2⟩; have HBz2 : Hid (Below W3.heap.size W3 wz2) := hid (by with_reducible exact qq_on hz2 (by assumption))) | (go_at_call 14; refine (cpuokI qs pc st n cp b0 HL.out hmn HB0.out _ ?_).mono ?_; (with_reducible exact HRc.out.on (qq_bel (by assumption))); rintro e wz3 ⟨rfl, hz3⟩; have HBz3 : Hid (Below W3.heap.size W3 wz3) := hid (by with_reducible exact qq_on hz3 (by assumption))) | (go_at_call 12; refine (cpuokS qs pc st n cp b0 HL.out hmn HB0.out _ ?_).mono ?_; (with_reducible exact HRc.out.on (qq_bel (by assumption))); rintro e wz4 ⟨rfl, hz4⟩; have HBz4 : Hid (Below W3.heap.size W3 wz4) := hid (by with_reducible exact qq_on hz4 (by assumption))))
  rename_i HH
  clear HH HQ HRc HRS2 HRS3 HRL2 HRL3 HBz1 HBz2 HBz3 hz1 hz2 hz3 hz4
  clear FX3_59
  clear FY3_60
  clear FE3_61
  clear FS3_56
  clear FL3_57
  have N_62 : Hid ((W3).heap.size ≤ (wz4).heap.size) := (HBz4.out).size
  have FW_63 : Hid (Below w0.heap.size w0 (wz4)) := bel_on (Nat.le_refl _) FW_46.out (HBz4.out)
  have FP_64 : Hid (Below w1.heap.size w1 (wz4)) := bel_on (Nat.le_refl _) FP_47.out (HBz4.out)
  have FC_65 : Hid ((wz4).heap[w1.heap.size]? = some (.cells #[.int .i64 pc, .slice qs n cp] 27)) := row_on FC_48.out (HBz4.out)
  have FA_66 : Hid ((wz4).heap[w1.heap.size + 1]? = some (.cells #[.slice (some ⟨ga, 0, none⟩) m 64] 38)) := row_on FA_49.out (HBz4.out)
  have FG_67 : Hid ((wz4).heap[w1.heap.size + 1 + 1]? = some (.cells #[.int .i64 f, .int .i64 s] 46)) := row_on FG_50.out (HBz4.out)
  have FS2_68 : Hid (OwnN (wz4) ((((w1.alloc (.cells #[.int .i64 pc, .slice qs n cp] 27)).alloc (.cells #[.slice (some ⟨ga, 0, none⟩) m 64] 38)).alloc (.cells #[.int .i64 f, .int .i64 s] 46))).heap.size gs2 N cs2 R.st) := FS2_51.out.on (HBz4.out)
  have FL2_69 : Hid (OwnN (wz4) ((((w1.alloc (.cells #[.int .i64 pc, .slice qs n cp] 27)).alloc (.cells #[.slice (some ⟨ga, 0, none⟩) m 64] 38)).alloc (.cells #[.int .i64 f, .int .i64 s] 46))).heap.size ga2 m ca2 R.ce) := FL2_52.out.on (HBz4.out)
  have FX2_70 : Hid ((wz4).heap[w2.heap.size]? = some (.cells #[.int .i64 R.pc, .slice (some ⟨gs2, 0, none⟩) N cs2] 27)) := row_on FX2_53.out (HBz4.out)
  have FY2_71 : Hid ((wz4).heap[w2.heap.size + 1]? = some (.cells #[.slice (some ⟨ga2, 0, none⟩) m ca2] 38)) := row_on FY2_54.out (HBz4.out)
  have FE2_72 : Hid ((wz4).heap[w2.heap.size + 1 + 1]? = some (.cells #[.int .i64 R.k, .int .i64 R.po, .int .i64 R.nu, .int .i64 R.tr] 40)) := row_on FE2_55.out (HBz4.out)
  clear FW_46 FP_47 FC_48 FA_49 FG_50 FS2_51 FL2_52 FX2_53 FY2_54 FE2_55 HBz4
  have hbb : (b0 != b0) = false := by simp
  by_cases htr : R.tr = 0
  · skip
    have HCR : Hid (CpuR R.pc R.st) := stepR_right HLC.out HB.out HRR.out htr
    have hN8 : N ≤ 8 := by have := HCR.out.1; have := HNN.out; omega
    have kE2 := row4_cells FE2_72.out
    have kX2 := row2_cells FX2_70.out
    by_cases h8 : N = 8
    · skip
      have H8 : Hid (N = 8) := h8
      have hlt8 : ¬ ((N : Int) < 8) := by omega
      clear h8
      go_wp2_with fail
      refine (answerI' (some ⟨gs2, 0, none⟩) R.pc R.st N cs2 70000 false N R.st HNN.out hN1 ⟨(fun h => by cases h), fun h => absurd H8.out h.2⟩ rfl rfl _ (FS2_68.out).rd).mono ?_
      rintro e w5 ⟨g5, c5, rfl, hown5, hb5⟩
      have N_73 : Hid ((wz4).heap.size ≤ (w5).heap.size) := (hb5).size
      have FW_74 : Hid (Below w0.heap.size w0 (w5)) := bel_on (Nat.le_refl _) FW_63.out (hb5)
      have FP_75 : Hid (Below w1.heap.size w1 (w5)) := bel_on (Nat.le_refl _) FP_64.out (hb5)
      have FC_76 : Hid ((w5).heap[w1.heap.size]? = some (.cells #[.int .i64 pc, .slice qs n cp] 27)) := row_on FC_65.out (hb5)
      have FA_77 : Hid ((w5).heap[w1.heap.size + 1]? = some (.cells #[.slice (some ⟨ga, 0, none⟩) m 64] 38)) := row_on FA_66.out (hb5)
      have FG_78 : Hid ((w5).heap[w1.heap.size + 1 + 1]? = some (.cells #[.int .i64 f, .int .i64 s] 46)) := row_on FG_67.out (hb5)
      have FS2_79 : Hid (OwnN (w5) ((((w1.alloc (.cells #[.int .i64 pc, .slice qs n cp] 27)).alloc (.cells #[.slice (some ⟨ga, 0, none⟩) m 64] 38)).alloc (.cells #[.int .i64 f, .int .i64 s] 46))).heap.size gs2 N cs2 R.st) := FS2_68.out.on (hb5)
      have FL2_80 : Hid (OwnN (w5) ((((w1.alloc (.cells #[.int .i64 pc, .slice qs n cp] 27)).alloc (.cells #[.slice (some ⟨ga, 0, none⟩) m 64] 38)).alloc (.cells #[.int .i64 f, .int .i64 s] 46))).heap.size ga2 m ca2 R.ce) := FL2_69.out.on (hb5)
      have FX2_81 : Hid ((w5).heap[w2.heap.size]? = some (.cells #[.int .i64 R.pc, .slice (some ⟨gs2, 0, none⟩) N cs2] 27)) := row_on FX2_70.out (hb5)
      have FY2_82 : Hid ((w5).heap[w2.heap.size + 1]? = some (.cells #[.slice (some ⟨ga2, 0, none⟩) m ca2] 38)) := row_on FY2_71.out (hb5)
      have FE2_83 : Hid ((w5).heap[w2.heap.size + 1 + 1]? = some (.cells #[.int .i64 R.k, .int .i64 R.po, .int .i64 R.nu, .int .i64 R.tr] 40)) := row_on FE2_72.out (hb5)
      clear FW_63 FP_64 FC_65 FA_66 FG_67 FS2_68 FL2_69 FX2_70 FY2_71 FE2_72
      clear hown5 hb5 kE2 kX2
      have N_84 : Hid ((w5).heap.size ≤ ((w5.alloc (.cells #[.int .i64 R.pc, .slice (some ⟨g5, 0, none⟩) N c5] 27))).heap.size) := (al1_b w5 (.cells #[.int .i64 R.pc, .slice (some ⟨g5, 0, none⟩) N c5] 27)).size
      have FW_85 : Hid (Below w0.heap.size w0 ((w5.alloc (.cells #[.int .i64 R.pc, .slice (some ⟨g5, 0, none⟩) N c5] 27)))) := bel_on (Nat.le_refl _) FW_74.out (al1_b w5 (.cells #[.int .i64 R.pc, .slice (some ⟨g5, 0, none⟩) N c5] 27))
      have FP_86 : Hid (Below w1.heap.size w1 ((w5.alloc (.cells #[.int .i64 R.pc, .slice (some ⟨g5, 0, none⟩) N c5] 27)))) := bel_on (Nat.le_refl _) FP_75.out (al1_b w5 (.cells #[.int .i64 R.pc, .slice (some ⟨g5, 0, none⟩) N c5] 27))
      have FC_87 : Hid (((w5.alloc (.cells #[.int .i64 R.pc, .slice (some ⟨g5, 0, none⟩) N c5] 27))).heap[w1.heap.size]? = some (.cells #[.int .i64 pc, .slice qs n cp] 27)) := row_on FC_76.out (al1_b w5 (.cells #[.int .i64 R.pc, .slice (some ⟨g5, 0, none⟩) N c5] 27))
      have FA_88 : Hid (((w5.alloc (.cells #[.int .i64 R.pc, .slice (some ⟨g5, 0, none⟩) N c5] 27))).heap[w1.heap.size + 1]? = some (.cells #[.slice (some ⟨ga, 0, none⟩) m 64] 38)) := row_on FA_77.out (al1_b w5 (.cells #[.int .i64 R.pc, .slice (some ⟨g5, 0, none⟩) N c5] 27))
      have FG_89 : Hid (((w5.alloc (.cells #[.int .i64 R.pc, .slice (some ⟨g5, 0, none⟩) N c5] 27))).heap[w1.heap.size + 1 + 1]? = some (.cells #[.int .i64 f, .int .i64 s] 46)) := row_on FG_78.out (al1_b w5 (.cells #[.int .i64 R.pc, .slice (some ⟨g5, 0, none⟩) N c5] 27))
      have FS2_90 : Hid (OwnN ((w5.alloc (.cells #[.int .i64 R.pc, .slice (some ⟨g5, 0, none⟩) N c5] 27))) ((((w1.alloc (.cells #[.int .i64 pc, .slice qs n cp] 27)).alloc (.cells #[.slice (some ⟨ga, 0, none⟩) m 64] 38)).alloc (.cells #[.int .i64 f, .int .i64 s] 46))).heap.size gs2 N cs2 R.st) := FS2_79.out.on (al1_b w5 (.cells #[.int .i64 R.pc, .slice (some ⟨g5, 0, none⟩) N c5] 27))
      have FL2_91 : Hid (OwnN ((w5.alloc (.cells #[.int .i64 R.pc, .slice (some ⟨g5, 0, none⟩) N c5] 27))) ((((w1.alloc (.cells #[.int .i64 pc, .slice qs n cp] 27)).alloc (.cells #[.slice (some ⟨ga, 0, none⟩) m 64] 38)).alloc (.cells #[.int .i64 f, .int .i64 s] 46))).heap.size ga2 m ca2 R.ce) := FL2_80.out.on (al1_b w5 (.cells #[.int .i64 R.pc, .slice (some ⟨g5, 0, none⟩) N c5] 27))
      have FX2_92 : Hid (((w5.alloc (.cells #[.int .i64 R.pc, .slice (some ⟨g5, 0, none⟩) N c5] 27))).heap[w2.heap.size]? = some (.cells #[.int .i64 R.pc, .slice (some ⟨gs2, 0, none⟩) N cs2] 27)) := row_on FX2_81.out (al1_b w5 (.cells #[.int .i64 R.pc, .slice (some ⟨g5, 0, none⟩) N c5] 27))
      have FY2_93 : Hid (((w5.alloc (.cells #[.int .i64 R.pc, .slice (some ⟨g5, 0, none⟩) N c5] 27))).heap[w2.heap.size + 1]? = some (.cells #[.slice (some ⟨ga2, 0, none⟩) m ca2] 38)) := row_on FY2_82.out (al1_b w5 (.cells #[.int .i64 R.pc, .slice (some ⟨g5, 0, none⟩) N c5] 27))
      have FE2_94 : Hid (((w5.alloc (.cells #[.int .i64 R.pc, .slice (some ⟨g5, 0, none⟩) N c5] 27))).heap[w2.heap.size + 1 + 1]? = some (.cells #[.int .i64 R.k, .int .i64 R.po, .int .i64 R.nu, .int .i64 R.tr] 40)) := row_on FE2_83.out (al1_b w5 (.cells #[.int .i64 R.pc, .slice (some ⟨g5, 0, none⟩) N c5] 27))
      clear FW_74 FP_75 FC_76 FA_77 FG_78 FS2_79 FL2_80 FX2_81 FY2_82 FE2_83
      have N_95 : Hid ((w5.alloc (.cells #[.int .i64 R.pc, .slice (some ⟨g5, 0, none⟩) N c5] 27)).heap.size = w5.heap.size + 1) := al1_s w5 (.cells #[.int .i64 R.pc, .slice (some ⟨g5, 0, none⟩) N c5] 27)
      have FN5_96 : Hid (((w5.alloc (.cells #[.int .i64 R.pc, .slice (some ⟨g5, 0, none⟩) N c5] 27))).heap[w5.heap.size]? = some (.cells #[.int .i64 R.pc, .slice (some ⟨g5, 0, none⟩) N c5] 27)) := al1_1 w5 (.cells #[.int .i64 R.pc, .slice (some ⟨g5, 0, none⟩) N c5] 27)
      have kX2 := row2_cells FX2_92.out
      have kN5 := row2_cells FN5_96.out
      go_wp2_with fail
      refine (cpuokI (some ⟨gs2, 0, none⟩) R.pc R.st N cs2 true HNN.out (by omega) ⟨fun _ => HCR.out, fun _ => rfl⟩ _ (FS2_90.out).rd).mono ?_
      rintro e w6 ⟨rfl, hb6⟩
      have N_97 : Hid (((w5.alloc (.cells #[.int .i64 R.pc, .slice (some ⟨g5, 0, none⟩) N c5] 27))).heap.size ≤ (w6).heap.size) := (hb6).size
      have FW_98 : Hid (Below w0.heap.size w0 (w6)) := bel_on (Nat.le_refl _) FW_85.out (hb6)
      have FP_99 : Hid (Below w1.heap.size w1 (w6)) := bel_on (Nat.le_refl _) FP_86.out (hb6)
      have FC_100 : Hid ((w6).heap[w1.heap.size]? = some (.cells #[.int .i64 pc, .slice qs n cp] 27)) := row_on FC_87.out (hb6)
      have FA_101 : Hid ((w6).heap[w1.heap.size + 1]? = some (.cells #[.slice (some ⟨ga, 0, none⟩) m 64] 38)) := row_on FA_88.out (hb6)
      have FG_102 : Hid ((w6).heap[w1.heap.size + 1 + 1]? = some (.cells #[.int .i64 f, .int .i64 s] 46)) := row_on FG_89.out (hb6)
      have FS2_103 : Hid (OwnN (w6) ((((w1.alloc (.cells #[.int .i64 pc, .slice qs n cp] 27)).alloc (.cells #[.slice (some ⟨ga, 0, none⟩) m 64] 38)).alloc (.cells #[.int .i64 f, .int .i64 s] 46))).heap.size gs2 N cs2 R.st) := FS2_90.out.on (hb6)
      have FL2_104 : Hid (OwnN (w6) ((((w1.alloc (.cells #[.int .i64 pc, .slice qs n cp] 27)).alloc (.cells #[.slice (some ⟨ga, 0, none⟩) m 64] 38)).alloc (.cells #[.int .i64 f, .int .i64 s] 46))).heap.size ga2 m ca2 R.ce) := FL2_91.out.on (hb6)
      have FX2_105 : Hid ((w6).heap[w2.heap.size]? = some (.cells #[.int .i64 R.pc, .slice (some ⟨gs2, 0, none⟩) N cs2] 27)) := row_on FX2_92.out (hb6)
      have FY2_106 : Hid ((w6).heap[w2.heap.size + 1]? = some (.cells #[.slice (some ⟨ga2, 0, none⟩) m ca2] 38)) := row_on FY2_93.out (hb6)
      have FE2_107 : Hid ((w6).heap[w2.heap.size + 1 + 1]? = some (.cells #[.int .i64 R.k, .int .i64 R.po, .int .i64 R.nu, .int .i64 R.tr] 40)) := row_on FE2_94.out (hb6)
      have FN5_108 : Hid ((w6).heap[w5.heap.size]? = some (.cells #[.int .i64 R.pc, .slice (some ⟨g5, 0, none⟩) N c5] 27)) := row_on FN5_96.out (hb6)
      clear FW_85 FP_86 FC_87 FA_88 FG_89 FS2_90 FL2_91 FX2_92 FY2_93 FE2_94 FN5_96 hb6
      clear kX2 kN5
      have kX2 := row2_cells FX2_105.out
      have kN5 := row2_cells FN5_108.out
      go_wp2
      go_ret
      exact ⟨(by first | rfl | (show Ending.returned (Value.bool (!decide ((N : Int) < 8))) = Ending.returned (Value.bool true); simp; omega)), FW_98.out⟩
    · skip
      have H8 : Hid (N ≠ 8) := h8
      have hlt8 : (N : Int) < 8 := by omega
      have hw1 : IntKind.i64.wrap (((N + 1 : Nat) : Int) - 1) = (N : Int) := (wrap_in (by omega) (by omega)).trans (by omega)
      have hw2 : IntKind.i64.wrap ((N : Int) + 1 - 1) = (N : Int) := (wrap_in (by omega) (by omega)).trans (by omega)
      clear h8
      go_wp2_with fail
      refine (answerI' (some ⟨gs2, 0, none⟩) R.pc R.st N cs2 70000 true (N + 1) (R.st ++ [4464]) HNN.out hN1 ⟨fun _ => ⟨HCR.out, H8.out⟩, fun _ => rfl⟩ rfl rfl _ (FS2_68.out).rd).mono ?_
      rintro e w5 ⟨g5, c5, rfl, hown5, hb5⟩
      have N_73 : Hid ((wz4).heap.size ≤ (w5).heap.size) := (hb5).size
      have FW_74 : Hid (Below w0.heap.size w0 (w5)) := bel_on (Nat.le_refl _) FW_63.out (hb5)
      have FP_75 : Hid (Below w1.heap.size w1 (w5)) := bel_on (Nat.le_refl _) FP_64.out (hb5)
      have FC_76 : Hid ((w5).heap[w1.heap.size]? = some (.cells #[.int .i64 pc, .slice qs n cp] 27)) := row_on FC_65.out (hb5)
      have FA_77 : Hid ((w5).heap[w1.heap.size + 1]? = some (.cells #[.slice (some ⟨ga, 0, none⟩) m 64] 38)) := row_on FA_66.out (hb5)
      have FG_78 : Hid ((w5).heap[w1.heap.size + 1 + 1]? = some (.cells #[.int .i64 f, .int .i64 s] 46)) := row_on FG_67.out (hb5)
      have FS2_79 : Hid (OwnN (w5) ((((w1.alloc (.cells #[.int .i64 pc, .slice qs n cp] 27)).alloc (.cells #[.slice (some ⟨ga, 0, none⟩) m 64] 38)).alloc (.cells #[.int .i64 f, .int .i64 s] 46))).heap.size gs2 N cs2 R.st) := FS2_68.out.on (hb5)
      have FL2_80 : Hid (OwnN (w5) ((((w1.alloc (.cells #[.int .i64 pc, .slice qs n cp] 27)).alloc (.cells #[.slice (some ⟨ga, 0, none⟩) m 64] 38)).alloc (.cells #[.int .i64 f, .int .i64 s] 46))).heap.size ga2 m ca2 R.ce) := FL2_69.out.on (hb5)
      have FX2_81 : Hid ((w5).heap[w2.heap.size]? = some (.cells #[.int .i64 R.pc, .slice (some ⟨gs2, 0, none⟩) N cs2] 27)) := row_on FX2_70.out (hb5)
      have FY2_82 : Hid ((w5).heap[w2.heap.size + 1]? = some (.cells #[.slice (some ⟨ga2, 0, none⟩) m ca2] 38)) := row_on FY2_71.out (hb5)
      have FE2_83 : Hid ((w5).heap[w2.heap.size + 1 + 1]? = some (.cells #[.int .i64 R.k, .int .i64 R.po, .int .i64 R.nu, .int .i64 R.tr] 40)) := row_on FE2_72.out (hb5)
      clear FW_63 FP_64 FC_65 FA_66 FG_67 FS2_68 FL2_69 FX2_70 FY2_71 FE2_72
      have HT5 : Hid (w5.cell? ⟨g5, N, none⟩ = some (.int .i64 4464)) := by
        have hx := hown5.top (j := N) (by omega)
        have e4 : (R.st ++ [4464]).getD N 0 = 4464 := by have hh := HNN.out; subst hh; simp
        rw [e4] at hx
        exact hx
      have HG5 : Hid (g5 < w5.heap.size) := hown5.lt
      clear hown5 hb5 kE2 kX2
      have N_84 : Hid ((w5).heap.size ≤ ((w5.alloc (.cells #[.int .i64 R.pc, .slice (some ⟨g5, 0, none⟩) (N + 1) c5] 27))).heap.size) := (al1_b w5 (.cells #[.int .i64 R.pc, .slice (some ⟨g5, 0, none⟩) (N + 1) c5] 27)).size
      have FW_85 : Hid (Below w0.heap.size w0 ((w5.alloc (.cells #[.int .i64 R.pc, .slice (some ⟨g5, 0, none⟩) (N + 1) c5] 27)))) := bel_on (Nat.le_refl _) FW_74.out (al1_b w5 (.cells #[.int .i64 R.pc, .slice (some ⟨g5, 0, none⟩) (N + 1) c5] 27))
      have FP_86 : Hid (Below w1.heap.size w1 ((w5.alloc (.cells #[.int .i64 R.pc, .slice (some ⟨g5, 0, none⟩) (N + 1) c5] 27)))) := bel_on (Nat.le_refl _) FP_75.out (al1_b w5 (.cells #[.int .i64 R.pc, .slice (some ⟨g5, 0, none⟩) (N + 1) c5] 27))
      have FC_87 : Hid (((w5.alloc (.cells #[.int .i64 R.pc, .slice (some ⟨g5, 0, none⟩) (N + 1) c5] 27))).heap[w1.heap.size]? = some (.cells #[.int .i64 pc, .slice qs n cp] 27)) := row_on FC_76.out (al1_b w5 (.cells #[.int .i64 R.pc, .slice (some ⟨g5, 0, none⟩) (N + 1) c5] 27))
      have FA_88 : Hid (((w5.alloc (.cells #[.int .i64 R.pc, .slice (some ⟨g5, 0, none⟩) (N + 1) c5] 27))).heap[w1.heap.size + 1]? = some (.cells #[.slice (some ⟨ga, 0, none⟩) m 64] 38)) := row_on FA_77.out (al1_b w5 (.cells #[.int .i64 R.pc, .slice (some ⟨g5, 0, none⟩) (N + 1) c5] 27))
      have FG_89 : Hid (((w5.alloc (.cells #[.int .i64 R.pc, .slice (some ⟨g5, 0, none⟩) (N + 1) c5] 27))).heap[w1.heap.size + 1 + 1]? = some (.cells #[.int .i64 f, .int .i64 s] 46)) := row_on FG_78.out (al1_b w5 (.cells #[.int .i64 R.pc, .slice (some ⟨g5, 0, none⟩) (N + 1) c5] 27))
      have FS2_90 : Hid (OwnN ((w5.alloc (.cells #[.int .i64 R.pc, .slice (some ⟨g5, 0, none⟩) (N + 1) c5] 27))) ((((w1.alloc (.cells #[.int .i64 pc, .slice qs n cp] 27)).alloc (.cells #[.slice (some ⟨ga, 0, none⟩) m 64] 38)).alloc (.cells #[.int .i64 f, .int .i64 s] 46))).heap.size gs2 N cs2 R.st) := FS2_79.out.on (al1_b w5 (.cells #[.int .i64 R.pc, .slice (some ⟨g5, 0, none⟩) (N + 1) c5] 27))
      have FL2_91 : Hid (OwnN ((w5.alloc (.cells #[.int .i64 R.pc, .slice (some ⟨g5, 0, none⟩) (N + 1) c5] 27))) ((((w1.alloc (.cells #[.int .i64 pc, .slice qs n cp] 27)).alloc (.cells #[.slice (some ⟨ga, 0, none⟩) m 64] 38)).alloc (.cells #[.int .i64 f, .int .i64 s] 46))).heap.size ga2 m ca2 R.ce) := FL2_80.out.on (al1_b w5 (.cells #[.int .i64 R.pc, .slice (some ⟨g5, 0, none⟩) (N + 1) c5] 27))
      have FX2_92 : Hid (((w5.alloc (.cells #[.int .i64 R.pc, .slice (some ⟨g5, 0, none⟩) (N + 1) c5] 27))).heap[w2.heap.size]? = some (.cells #[.int .i64 R.pc, .slice (some ⟨gs2, 0, none⟩) N cs2] 27)) := row_on FX2_81.out (al1_b w5 (.cells #[.int .i64 R.pc, .slice (some ⟨g5, 0, none⟩) (N + 1) c5] 27))
      have FY2_93 : Hid (((w5.alloc (.cells #[.int .i64 R.pc, .slice (some ⟨g5, 0, none⟩) (N + 1) c5] 27))).heap[w2.heap.size + 1]? = some (.cells #[.slice (some ⟨ga2, 0, none⟩) m ca2] 38)) := row_on FY2_82.out (al1_b w5 (.cells #[.int .i64 R.pc, .slice (some ⟨g5, 0, none⟩) (N + 1) c5] 27))
      have FE2_94 : Hid (((w5.alloc (.cells #[.int .i64 R.pc, .slice (some ⟨g5, 0, none⟩) (N + 1) c5] 27))).heap[w2.heap.size + 1 + 1]? = some (.cells #[.int .i64 R.k, .int .i64 R.po, .int .i64 R.nu, .int .i64 R.tr] 40)) := row_on FE2_83.out (al1_b w5 (.cells #[.int .i64 R.pc, .slice (some ⟨g5, 0, none⟩) (N + 1) c5] 27))
      clear FW_74 FP_75 FC_76 FA_77 FG_78 FS2_79 FL2_80 FX2_81 FY2_82 FE2_83
      have N_95 : Hid ((w5.alloc (.cells #[.int .i64 R.pc, .slice (some ⟨g5, 0, none⟩) (N + 1) c5] 27)).heap.size = w5.heap.size + 1) := al1_s w5 (.cells #[.int .i64 R.pc, .slice (some ⟨g5, 0, none⟩) (N + 1) c5] 27)
      have FN5_96 : Hid (((w5.alloc (.cells #[.int .i64 R.pc, .slice (some ⟨g5, 0, none⟩) (N + 1) c5] 27))).heap[w5.heap.size]? = some (.cells #[.int .i64 R.pc, .slice (some ⟨g5, 0, none⟩) (N + 1) c5] 27)) := al1_1 w5 (.cells #[.int .i64 R.pc, .slice (some ⟨g5, 0, none⟩) (N + 1) c5] 27)
      have kX2 := row2_cells FX2_92.out
      have kN5 := row2_cells FN5_96.out
      go_wp2_with fail
      refine (cpuokI (some ⟨gs2, 0, none⟩) R.pc R.st N cs2 true HNN.out (by omega) ⟨fun _ => HCR.out, fun _ => rfl⟩ _ (FS2_90.out).rd).mono ?_
      rintro e w6 ⟨rfl, hb6⟩
      have kT6 := cell_on HT5.out (bel_on (Nat.le_refl _) (al1_b w5 _) hb6)
      have N_97 : Hid (((w5.alloc (.cells #[.int .i64 R.pc, .slice (some ⟨g5, 0, none⟩) (N + 1) c5] 27))).heap.size ≤ (w6).heap.size) := (hb6).size
      have FW_98 : Hid (Below w0.heap.size w0 (w6)) := bel_on (Nat.le_refl _) FW_85.out (hb6)
      have FP_99 : Hid (Below w1.heap.size w1 (w6)) := bel_on (Nat.le_refl _) FP_86.out (hb6)
      have FC_100 : Hid ((w6).heap[w1.heap.size]? = some (.cells #[.int .i64 pc, .slice qs n cp] 27)) := row_on FC_87.out (hb6)
      have FA_101 : Hid ((w6).heap[w1.heap.size + 1]? = some (.cells #[.slice (some ⟨ga, 0, none⟩) m 64] 38)) := row_on FA_88.out (hb6)
      have FG_102 : Hid ((w6).heap[w1.heap.size + 1 + 1]? = some (.cells #[.int .i64 f, .int .i64 s] 46)) := row_on FG_89.out (hb6)
      have FS2_103 : Hid (OwnN (w6) ((((w1.alloc (.cells #[.int .i64 pc, .slice qs n cp] 27)).alloc (.cells #[.slice (some ⟨ga, 0, none⟩) m 64] 38)).alloc (.cells #[.int .i64 f, .int .i64 s] 46))).heap.size gs2 N cs2 R.st) := FS2_90.out.on (hb6)
      have FL2_104 : Hid (OwnN (w6) ((((w1.alloc (.cells #[.int .i64 pc, .slice qs n cp] 27)).alloc (.cells #[.slice (some ⟨ga, 0, none⟩) m 64] 38)).alloc (.cells #[.int .i64 f, .int .i64 s] 46))).heap.size ga2 m ca2 R.ce) := FL2_91.out.on (hb6)
      have FX2_105 : Hid ((w6).heap[w2.heap.size]? = some (.cells #[.int .i64 R.pc, .slice (some ⟨gs2, 0, none⟩) N cs2] 27)) := row_on FX2_92.out (hb6)
      have FY2_106 : Hid ((w6).heap[w2.heap.size + 1]? = some (.cells #[.slice (some ⟨ga2, 0, none⟩) m ca2] 38)) := row_on FY2_93.out (hb6)
      have FE2_107 : Hid ((w6).heap[w2.heap.size + 1 + 1]? = some (.cells #[.int .i64 R.k, .int .i64 R.po, .int .i64 R.nu, .int .i64 R.tr] 40)) := row_on FE2_94.out (hb6)
      have FN5_108 : Hid ((w6).heap[w5.heap.size]? = some (.cells #[.int .i64 R.pc, .slice (some ⟨g5, 0, none⟩) (N + 1) c5] 27)) := row_on FN5_96.out (hb6)
      clear FW_85 FP_86 FC_87 FA_88 FG_89 FS2_90 FL2_91 FX2_92 FY2_93 FE2_94 FN5_96 hb6
      clear kX2 kN5
      have kX2 := row2_cells FX2_105.out
      have kN5 := row2_cells FN5_108.out
      go_wp2
      go_ret
      exact ⟨(by first | rfl | (show Ending.returned (Value.bool (decide ((N : Int) < 8))) = Ending.returned (Value.bool true); simp; omega)), FW_98.out⟩
  · skip
    have hT := stepR_trap HRR.out htr
    have HPC : Hid (R.pc = pc ∧ R.st = st ∧ R.ce = ce ∧ R.k = 0) := ⟨by rw [hT]; rfl, by rw [hT]; rfl, by rw [hT]; rfl, by rw [hT]; rfl⟩
    clear hT
    have hNn : N = n := by rw [← HNN.out, HPC.out.2.1]; exact HL.out
    have GX2 : Hid ((wz4).heap[w2.heap.size]? = some (.cells #[.int .i64 pc, .slice (some ⟨gs2, 0, none⟩) n cs2] 27)) := by have h := FX2_70.out; rw [HPC.out.1, hNn] at h; exact h
    have GE2 : Hid ((wz4).heap[w2.heap.size + 1 + 1]? = some (.cells #[.int .i64 0, .int .i64 R.po, .int .i64 R.nu, .int .i64 R.tr] 40)) := by have h := FE2_72.out; rw [HPC.out.2.2.2] at h; exact h
    have GS2 : Hid (OwnN (wz4) ((((w1.alloc (.cells #[.int .i64 pc, .slice qs n cp] 27)).alloc (.cells #[.slice (some ⟨ga, 0, none⟩) m 64] 38)).alloc (.cells #[.int .i64 f, .int .i64 s] 46))).heap.size gs2 n cs2 st) := by have h := FS2_68.out; rw [HPC.out.2.1, hNn] at h; exact h
    have GL2 : Hid (OwnN (wz4) ((((w1.alloc (.cells #[.int .i64 pc, .slice qs n cp] 27)).alloc (.cells #[.slice (some ⟨ga, 0, none⟩) m 64] 38)).alloc (.cells #[.int .i64 f, .int .i64 s] 46))).heap.size ga2 m ca2 ce) := by have h := FL2_69.out; rw [HPC.out.2.2.1] at h; exact h
    have hbt : (R.tr != 0) = true := by simp [htr]
    have hbt2 : (R.tr == 0) = false := by simp [htr]
    have kE2 := row4_cells GE2.out
    have kX2 := row2_cells GX2.out
    have kC := row2_cells FC_65.out
    clear hNn HPC HRR HNN HCE
    go_wp2_with fail
    refine (sameC (some ⟨gs2, 0, none⟩) qs pc st n cs2 cp HL.out hn _ (GS2.out).rd (HR.out.on FP_64.out)).mono ?_
    rintro e w5 ⟨rfl, hb5⟩
    have N_73 : Hid ((wz4).heap.size ≤ (w5).heap.size) := (hb5).size
    have FW_74 : Hid (Below w0.heap.size w0 (w5)) := bel_on (Nat.le_refl _) FW_63.out (hb5)
    have FP_75 : Hid (Below w1.heap.size w1 (w5)) := bel_on (Nat.le_refl _) FP_64.out (hb5)
    have FC_76 : Hid ((w5).heap[w1.heap.size]? = some (.cells #[.int .i64 pc, .slice qs n cp] 27)) := row_on FC_65.out (hb5)
    have FA_77 : Hid ((w5).heap[w1.heap.size + 1]? = some (.cells #[.slice (some ⟨ga, 0, none⟩) m 64] 38)) := row_on FA_66.out (hb5)
    have FG_78 : Hid ((w5).heap[w1.heap.size + 1 + 1]? = some (.cells #[.int .i64 f, .int .i64 s] 46)) := row_on FG_67.out (hb5)
    have FS2_79 : Hid (OwnN (w5) ((((w1.alloc (.cells #[.int .i64 pc, .slice qs n cp] 27)).alloc (.cells #[.slice (some ⟨ga, 0, none⟩) m 64] 38)).alloc (.cells #[.int .i64 f, .int .i64 s] 46))).heap.size gs2 n cs2 st) := GS2.out.on (hb5)
    have FL2_80 : Hid (OwnN (w5) ((((w1.alloc (.cells #[.int .i64 pc, .slice qs n cp] 27)).alloc (.cells #[.slice (some ⟨ga, 0, none⟩) m 64] 38)).alloc (.cells #[.int .i64 f, .int .i64 s] 46))).heap.size ga2 m ca2 ce) := GL2.out.on (hb5)
    have FX2_81 : Hid ((w5).heap[w2.heap.size]? = some (.cells #[.int .i64 pc, .slice (some ⟨gs2, 0, none⟩) n cs2] 27)) := row_on GX2.out (hb5)
    have FY2_82 : Hid ((w5).heap[w2.heap.size + 1]? = some (.cells #[.slice (some ⟨ga2, 0, none⟩) m ca2] 38)) := row_on FY2_71.out (hb5)
    have FE2_83 : Hid ((w5).heap[w2.heap.size + 1 + 1]? = some (.cells #[.int .i64 0, .int .i64 R.po, .int .i64 R.nu, .int .i64 R.tr] 40)) := row_on GE2.out (hb5)
    clear FW_63 FP_64 FC_65 FA_66 FG_67 GS2 GL2 GX2 FY2_71 GE2 hb5
    clear kE2 kX2 kC
    have kE2 := row4_cells FE2_83.out
    have kY2 := row1_cells FY2_82.out
    have kA := row1_cells FA_77.out
    go_wp2_with fail
    refine (sameI (some ⟨ga2, 0, none⟩) (some ⟨ga, 0, none⟩) ce m ca2 64 HLA.out hm _ (FL2_80.out).rd (HRA.out.on FP_75.out)).mono ?_
    rintro e w6 ⟨rfl, hb6⟩
    have N_84 : Hid ((w5).heap.size ≤ (w6).heap.size) := (hb6).size
    have FW_85 : Hid (Below w0.heap.size w0 (w6)) := bel_on (Nat.le_refl _) FW_74.out (hb6)
    have FP_86 : Hid (Below w1.heap.size w1 (w6)) := bel_on (Nat.le_refl _) FP_75.out (hb6)
    have FC_87 : Hid ((w6).heap[w1.heap.size]? = some (.cells #[.int .i64 pc, .slice qs n cp] 27)) := row_on FC_76.out (hb6)
    have FA_88 : Hid ((w6).heap[w1.heap.size + 1]? = some (.cells #[.slice (some ⟨ga, 0, none⟩) m 64] 38)) := row_on FA_77.out (hb6)
    have FG_89 : Hid ((w6).heap[w1.heap.size + 1 + 1]? = some (.cells #[.int .i64 f, .int .i64 s] 46)) := row_on FG_78.out (hb6)
    have FS2_90 : Hid (OwnN (w6) ((((w1.alloc (.cells #[.int .i64 pc, .slice qs n cp] 27)).alloc (.cells #[.slice (some ⟨ga, 0, none⟩) m 64] 38)).alloc (.cells #[.int .i64 f, .int .i64 s] 46))).heap.size gs2 n cs2 st) := FS2_79.out.on (hb6)
    have FL2_91 : Hid (OwnN (w6) ((((w1.alloc (.cells #[.int .i64 pc, .slice qs n cp] 27)).alloc (.cells #[.slice (some ⟨ga, 0, none⟩) m 64] 38)).alloc (.cells #[.int .i64 f, .int .i64 s] 46))).heap.size ga2 m ca2 ce) := FL2_80.out.on (hb6)
    have FX2_92 : Hid ((w6).heap[w2.heap.size]? = some (.cells #[.int .i64 pc, .slice (some ⟨gs2, 0, none⟩) n cs2] 27)) := row_on FX2_81.out (hb6)
    have FY2_93 : Hid ((w6).heap[w2.heap.size + 1]? = some (.cells #[.slice (some ⟨ga2, 0, none⟩) m ca2] 38)) := row_on FY2_82.out (hb6)
    have FE2_94 : Hid ((w6).heap[w2.heap.size + 1 + 1]? = some (.cells #[.int .i64 0, .int .i64 R.po, .int .i64 R.nu, .int .i64 R.tr] 40)) := row_on FE2_83.out (hb6)
    clear FW_74 FP_75 FC_76 FA_77 FG_78 FS2_79 FL2_80 FX2_81 FY2_82 FE2_83 hb6
    clear kE2 kY2 kA
    have kE2 := row4_cells FE2_94.out
    go_wp2
    go_ret
    exact ⟨rfl, FW_85.out⟩

theorem walk (a0 : Option Addr) (len0 cap0 : Nat) (z0 : List Int) (w : World) (w0 : D.IsRow .u8 w a0 len0 cap0 z0) :
    Calls Try.prog 6 #[.slice a0 len0 cap0] w fun e w' => e = .returned (.bool true) ∧ Below w.heap.size w w' := by
  have hlen : len0 ≤ 9223372036854775807 := by
    rcases w0 with ⟨_, h, _⟩ | ⟨x, _, h1, h2, _⟩
    · omega
    · unfold maxLen at h2; omega
  by_cases hb : len0 ≤ 1048576
  · exact machines_in a0 len0 cap0 hb w (D.code_of_row w0 hb)
  · have hb' : 1048576 < len0 := by omega
    go_enter Try.func6, Try.ntmps6
    go_wp2_with fail
    refine (D.big5 a0 len0 cap0 hlen _).mono ?_
    rintro e w1 ⟨rfl, rfl⟩
    rw [decide_eq_true (by omega)]
    go_wp2
    go_ret
    exact ⟨rfl, Below.refl _ _⟩

set_option maxRecDepth 100000 in
theorem lifted (os : Os) (started : os.Started) (H : Type) (enc : TypeId × Value → H) :
    ReturnsInHanded {} Try.checked os 6 .any (Rows.fnMachinesSpec.pre6 enc Try.prog Try.f6 Rows.fnMachinesRow.domain false) (Rows.fnMachinesSpec.post enc Try.prog Try.f6 false true false false) := by
  refine returnsInHanded_of_change (C := Try.checked) own started (by kernel_rfl) Try.func6
    (ChangeSpec.witness6 (enc := enc) (C := Try.checked) false ⟨#[], #[.slice none 0 0], []⟩ 8 (by kernel_rfl) (by kernel_rfl) (by kernel_rfl) (by kernel_rfl)) ?_
  intro W base args ds gs before hval0 hW hcnd _
  have hval : ∀ (j : Nat) t v, Try.f6.params[j]? = some t → args[j]? = some v → Value.okWide Try.prog W .any base t v := hval0
  have hW' := hW
  obtain ⟨p, q, hA0, hV, rfl, hfz, hnd⟩ := hW
  have hA : DataW.TrodAll enc Try.prog W 0 (fun _ => true) true Try.f6.params.toList args.toList ds p := hA0
  rw [Try.params6] at hA hval
  obtain ⟨v0, vs0, d0, ds0, p0, q0, hargs, rfl, rfl, h0, r0⟩ := trodAll_cons hA
  obtain ⟨rfl, rfl, rfl⟩ := trodAll_nil r0
  obtain rfl : args = #[v0] := by cases args; simp_all
  obtain ⟨rfl, rfl⟩ := trodVars_none hV
  have k0 := h0
  have lt0 : ∀ x ∈ p0, x.block < W.heap.size := by obtain ⟨m, hm⟩ := k0; exact DataW.trod_lt m _ _ _ hm
  obtain ⟨a0, len0, cap0, z0, rfl, w0⟩ := D.open_code (hval 0 58 v0 rfl rfl) h0
  clear hA0 hval0
  refine (walk a0 len0 cap0 z0 W w0).mono fun e W' ⟨he, bel⟩ => ?_
  subst he
  exact ⟨_, rfl, _, _, _, [], _, [], hW', trodAll_mk1 (shut_bool Try.underlying4 _), (trodAll_cons_mk (Below.trod laidOut (by kernel_rfl) (of_decide_eq_true (by kernel_rfl)) k0 bel lt0) trodAll_mk0), rfl, bel.frame _, fun h => by cases h⟩

theorem over : Rows.fnMachinesRow.holds Try.pinned (OpenSpec.ofChange Rows.fnMachinesSpec) :=
  OpenClaim.holds_of_wide 6 Try.f6 rfl rfl rfl rfl rfl rfl rfl ⟨rfl, rfl, rfl, rfl, rfl⟩ rfl rfl rfl rfl rfl (by kernel_rfl) Try.func6 (by kernel_rfl)
    (of_decide_eq_true (by kernel_rfl)) (by unfold Func.isWrapper; first | (rw [if_pos (by decide +kernel)]; kernel_rfl) | (rw [if_neg (by decide +kernel)]; exact ⟨rfl, rfl⟩))
    (fun os started H enc _ => lifted os started H enc)

end Go.Proofs.Ytbacmkibilhkgaa.fnMachines
namespace Go.Proofs.Ytbacmkibilhkgaa
theorem fnMachines_holds : Rows.FnMachinesSaid :=
  fnMachines.over
#print axioms fnMachines_holds
end Go.Proofs.Ytbacmkibilhkgaa
