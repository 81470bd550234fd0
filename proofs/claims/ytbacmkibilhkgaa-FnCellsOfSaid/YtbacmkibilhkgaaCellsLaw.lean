/-
  Proved: for every text of bytes the call of FnCellsOf returns true: a number that is stored by code is loaded by it, an offset beyond the region is a trap (texts of more than 1048576 bytes the law itself lets by). No conditions.
-/
import Derived.Test.YtbacmkibilhkgaaRows
import Derived.Test.YtbacmkibilhkgaaCellsM
import Derived.OpenShut
import Derived.ShutString
import Derived.ChangeOld
import Derived.Below
import Derived.OpenVars
import Derived.Deep.DeepHandedRow
namespace Go.Proofs.Ytbacmkibilhkgaa.fnCellsOf
open Go.ChangeShapes Go.WideShapes Go.ChangeAt Go.RowKit Go.PlainAid
open Go.ChangeMaps (open_string shut_string)
set_option linter.unusedVariables false

theorem own : ownKnob Try.prog.godebug = none := by kernel_rfl
theorem laidOut : laidOutB Try.prog = true := by kernel_rfl

theorem field0 (a : Option Addr) (n c : Nat) (w : World) : (Instr.field 38 (.agg #[.slice a n c]) 0).run Try.prog w = .ok (.slice a n c) w := by kernel_rfl
theorem q1_on {W0 W W' : World} {p : Addr} {v : Value} (hb : Below W.heap.size W W') (h : W.cell? p = some v ∧ Below W0.heap.size W0 W) : W'.cell? p = some v ∧ Below W0.heap.size W0 W' := ⟨cell_on h.1 hb, bel_on (Nat.le_refl _) h.2 hb⟩
theorem undrew' {W W' : World} (h : Below W.heap.size W W') : Below W.drew.heap.size W.drew W' := ⟨h.os, h.tape, h.output, h.size, h.block⟩
set_option maxRecDepth 100000 in
set_option maxHeartbeats 3000000 in
theorem cells_in (a0 : Option Addr) (len0 cap0 : Nat) (hb : len0 ≤ 1048576) (w : World) (hcode : D.CodeOk w w.heap.size a0 len0) :
    Calls Try.prog 8 #[.slice a0 len0 cap0] w fun e w' => e = .returned (.bool true) ∧ Below w.heap.size w w' := by
  go_enter Try.func8, Try.ntmps8
  go_wp2_with fail
  refine (D.big5 a0 len0 cap0 (by omega) _).mono ?_
  rintro e w0 ⟨rfl, rfl⟩
  rw [decide_eq_false (by omega)]
  go_wp2_with fail
  refine (D.places7 w0.heap.size a0 len0 cap0 _ hcode (Nat.le_refl _)).mono ?_
  rintro e w1 ⟨gp, cpp, p0, p1, p2, p3, rfl, h0, h1, h2, h3, hgp, c0, c1, c2, c3, hlp, hb1⟩
  have FW_1 : Hid (Below w0.heap.size w0 (w0)) := Below.refl _ _
  have N_2 : Hid ((w0).heap.size ≤ (w1).heap.size) := (hb1).size
  have FW_3 : Hid (Below w0.heap.size w0 (w1)) := bel_on (Nat.le_refl _) FW_1.out (hb1)
  clear FW_1 hb1 hgp
  obtain ⟨A, hA⟩ : ∃ A, p0 % 12 = A := ⟨_, rfl⟩
  obtain ⟨n, hn⟩ : ∃ n, p1 % 256 = n := ⟨_, rfl⟩
  have hA2 : p0.tmod 12 = A := by rw [Int.tmod_eq_emod_of_nonneg h0.1]; exact hA
  have hn2 : p1.tmod 256 = n := by rw [Int.tmod_eq_emod_of_nonneg h1.1]; exact hn
  have hA0 : 0 ≤ A ∧ A < 12 := by omega
  have hn0 : 0 ≤ n ∧ n < 256 := by omega
  clear h2 h3 c2 c3
  have N_4 : Hid ((w1).heap.size ≤ (((w1.alloc (.cells #[.int .i64 1, .int .i64 A, .int .i64 1, .int .i64 n, .int .i64 3, .int .i64 0, .int .i64 1, .int .i64 0, .int .i64 2, .int .i64 A] 65)).alloc (.cells #[.int .i64 0, .slice none 0 0] 27))).heap.size) := (al2_b w1 (.cells #[.int .i64 1, .int .i64 A, .int .i64 1, .int .i64 n, .int .i64 3, .int .i64 0, .int .i64 1, .int .i64 0, .int .i64 2, .int .i64 A] 65) (.cells #[.int .i64 0, .slice none 0 0] 27)).size
  have FW_5 : Hid (Below w0.heap.size w0 (((w1.alloc (.cells #[.int .i64 1, .int .i64 A, .int .i64 1, .int .i64 n, .int .i64 3, .int .i64 0, .int .i64 1, .int .i64 0, .int .i64 2, .int .i64 A] 65)).alloc (.cells #[.int .i64 0, .slice none 0 0] 27)))) := bel_on (Nat.le_refl _) FW_3.out (al2_b w1 (.cells #[.int .i64 1, .int .i64 A, .int .i64 1, .int .i64 n, .int .i64 3, .int .i64 0, .int .i64 1, .int .i64 0, .int .i64 2, .int .i64 A] 65) (.cells #[.int .i64 0, .slice none 0 0] 27))
  clear FW_3
  have N_6 : Hid (((w1.alloc (.cells #[.int .i64 1, .int .i64 A, .int .i64 1, .int .i64 n, .int .i64 3, .int .i64 0, .int .i64 1, .int .i64 0, .int .i64 2, .int .i64 A] 65)).alloc (.cells #[.int .i64 0, .slice none 0 0] 27)).heap.size = w1.heap.size + 2) := al2_s w1 (.cells #[.int .i64 1, .int .i64 A, .int .i64 1, .int .i64 n, .int .i64 3, .int .i64 0, .int .i64 1, .int .i64 0, .int .i64 2, .int .i64 A] 65) (.cells #[.int .i64 0, .slice none 0 0] 27)
  have FI_7 : Hid ((((w1.alloc (.cells #[.int .i64 1, .int .i64 A, .int .i64 1, .int .i64 n, .int .i64 3, .int .i64 0, .int .i64 1, .int .i64 0, .int .i64 2, .int .i64 A] 65)).alloc (.cells #[.int .i64 0, .slice none 0 0] 27))).heap[w1.heap.size]? = some (.cells #[.int .i64 1, .int .i64 A, .int .i64 1, .int .i64 n, .int .i64 3, .int .i64 0, .int .i64 1, .int .i64 0, .int .i64 2, .int .i64 A] 65)) := al2_1 w1 (.cells #[.int .i64 1, .int .i64 A, .int .i64 1, .int .i64 n, .int .i64 3, .int .i64 0, .int .i64 1, .int .i64 0, .int .i64 2, .int .i64 A] 65) (.cells #[.int .i64 0, .slice none 0 0] 27)
  have FC_8 : Hid ((((w1.alloc (.cells #[.int .i64 1, .int .i64 A, .int .i64 1, .int .i64 n, .int .i64 3, .int .i64 0, .int .i64 1, .int .i64 0, .int .i64 2, .int .i64 A] 65)).alloc (.cells #[.int .i64 0, .slice none 0 0] 27))).heap[w1.heap.size + 1]? = some (.cells #[.int .i64 0, .slice none 0 0] 27)) := al2_2 w1 (.cells #[.int .i64 1, .int .i64 A, .int .i64 1, .int .i64 n, .int .i64 3, .int .i64 0, .int .i64 1, .int .i64 0, .int .i64 2, .int .i64 A] 65) (.cells #[.int .i64 0, .slice none 0 0] 27)
  go_wp2_with fail
  refine (newI _).mono ?_
  rintro e w2 ⟨g2, rfl, hg2, hrow2, hb2⟩
  have N_9 : Hid ((((w1.alloc (.cells #[.int .i64 1, .int .i64 A, .int .i64 1, .int .i64 n, .int .i64 3, .int .i64 0, .int .i64 1, .int .i64 0, .int .i64 2, .int .i64 A] 65)).alloc (.cells #[.int .i64 0, .slice none 0 0] 27))).heap.size ≤ (w2).heap.size) := (hb2).size
  have FW_10 : Hid (Below w0.heap.size w0 (w2)) := bel_on (Nat.le_refl _) FW_5.out (hb2)
  have FI_11 : Hid ((w2).heap[w1.heap.size]? = some (.cells #[.int .i64 1, .int .i64 A, .int .i64 1, .int .i64 n, .int .i64 3, .int .i64 0, .int .i64 1, .int .i64 0, .int .i64 2, .int .i64 A] 65)) := row_on FI_7.out (hb2)
  have FC_12 : Hid ((w2).heap[w1.heap.size + 1]? = some (.cells #[.int .i64 0, .slice none 0 0] 27)) := row_on FC_8.out (hb2)
  clear FW_5 FI_7 FC_8
  have N_13 : Hid ((((w1.alloc (.cells #[.int .i64 1, .int .i64 A, .int .i64 1, .int .i64 n, .int .i64 3, .int .i64 0, .int .i64 1, .int .i64 0, .int .i64 2, .int .i64 A] 65)).alloc (.cells #[.int .i64 0, .slice none 0 0] 27))).heap.size ≤ g2 ∧ g2 < w2.heap.size) := ⟨hg2, hrow2.lt⟩
  have FZ_14 : Hid (RowAt (w2) g2 z64) := hrow2
  clear hg2 hrow2 hb2
  clear c0 c1 hA hn hA2 hn2 h0 h1
  have N_15 : Hid ((w2).heap.size ≤ (((w2.alloc (.cells #[.slice (some ⟨g2, 0, none⟩) 64 64] 38)).alloc (.cells #[.int .i64 20, .int .i64 8] 46))).heap.size) := (al2_b w2 (.cells #[.slice (some ⟨g2, 0, none⟩) 64 64] 38) (.cells #[.int .i64 20, .int .i64 8] 46)).size
  have FW_16 : Hid (Below w0.heap.size w0 (((w2.alloc (.cells #[.slice (some ⟨g2, 0, none⟩) 64 64] 38)).alloc (.cells #[.int .i64 20, .int .i64 8] 46)))) := bel_on (Nat.le_refl _) FW_10.out (al2_b w2 (.cells #[.slice (some ⟨g2, 0, none⟩) 64 64] 38) (.cells #[.int .i64 20, .int .i64 8] 46))
  have FI_17 : Hid ((((w2.alloc (.cells #[.slice (some ⟨g2, 0, none⟩) 64 64] 38)).alloc (.cells #[.int .i64 20, .int .i64 8] 46))).heap[w1.heap.size]? = some (.cells #[.int .i64 1, .int .i64 A, .int .i64 1, .int .i64 n, .int .i64 3, .int .i64 0, .int .i64 1, .int .i64 0, .int .i64 2, .int .i64 A] 65)) := row_on FI_11.out (al2_b w2 (.cells #[.slice (some ⟨g2, 0, none⟩) 64 64] 38) (.cells #[.int .i64 20, .int .i64 8] 46))
  have FC_18 : Hid ((((w2.alloc (.cells #[.slice (some ⟨g2, 0, none⟩) 64 64] 38)).alloc (.cells #[.int .i64 20, .int .i64 8] 46))).heap[w1.heap.size + 1]? = some (.cells #[.int .i64 0, .slice none 0 0] 27)) := row_on FC_12.out (al2_b w2 (.cells #[.slice (some ⟨g2, 0, none⟩) 64 64] 38) (.cells #[.int .i64 20, .int .i64 8] 46))
  have FZ_19 : Hid (RowAt (((w2.alloc (.cells #[.slice (some ⟨g2, 0, none⟩) 64 64] 38)).alloc (.cells #[.int .i64 20, .int .i64 8] 46))) g2 z64) := RowAt.on FZ_14.out (al2_b w2 (.cells #[.slice (some ⟨g2, 0, none⟩) 64 64] 38) (.cells #[.int .i64 20, .int .i64 8] 46))
  clear FW_10 FI_11 FC_12 FZ_14
  have N_20 : Hid (((w2.alloc (.cells #[.slice (some ⟨g2, 0, none⟩) 64 64] 38)).alloc (.cells #[.int .i64 20, .int .i64 8] 46)).heap.size = w2.heap.size + 2) := al2_s w2 (.cells #[.slice (some ⟨g2, 0, none⟩) 64 64] 38) (.cells #[.int .i64 20, .int .i64 8] 46)
  have FA_21 : Hid ((((w2.alloc (.cells #[.slice (some ⟨g2, 0, none⟩) 64 64] 38)).alloc (.cells #[.int .i64 20, .int .i64 8] 46))).heap[w2.heap.size]? = some (.cells #[.slice (some ⟨g2, 0, none⟩) 64 64] 38)) := al2_1 w2 (.cells #[.slice (some ⟨g2, 0, none⟩) 64 64] 38) (.cells #[.int .i64 20, .int .i64 8] 46)
  have FG_22 : Hid ((((w2.alloc (.cells #[.slice (some ⟨g2, 0, none⟩) 64 64] 38)).alloc (.cells #[.int .i64 20, .int .i64 8] 46))).heap[w2.heap.size + 1]? = some (.cells #[.int .i64 20, .int .i64 8] 46)) := al2_2 w2 (.cells #[.slice (some ⟨g2, 0, none⟩) 64 64] 38) (.cells #[.int .i64 20, .int .i64 8] 46)
  go_wp2_with fail
  have HLW : Hid (w0.heap.size ≤ w1.heap.size ∧ w1.heap.size + 2 ≤ w2.heap.size) := by
    have n0_ := N_2.out; have n1_ := N_6.out; have n2_ := N_9.out; have n3_ := N_13.out; have n4_ := N_20.out; exact ⟨by omega, by omega⟩
  go_loopw [10, 11] (fun tr i wr => ∃ (k j : Nat) (q qa : Option Addr) (c ca : Nat), i = .int .i64 k ∧ k ≤ 5 ∧ Hid ((tr = .int .i64 0 ∧ k = j ∧ (8 ≤ A → j ≤ 2)) ∨ (tr = .int .i64 2 ∧ k = 3 ∧ j = 2 ∧ 8 ≤ A)) ∧ Hid (wr.heap[w1.heap.size + 1]? = some (.cells #[.int .i64 j, .slice q (cSt A n j).length c] 27)) ∧ Hid (wr.heap[w2.heap.size]? = some (.cells #[.slice qa 64 ca] 38)) ∧ Hid (wr.heap[w2.heap.size + 1]? = some (.cells #[.int .i64 20, .int .i64 8] 46)) ∧ Hid (I.RowR wr (w1.heap.size) (cRl A n)) ∧ Hid (Rd wr q (cSt A n j)) ∧ Hid (Rd wr qa (cCe A n j)) ∧ Hid (Below w0.heap.size w0 wr)) (fun _ i _ => 6 - (intOf i).toNat)
  case atStart => exact ⟨0, 0, none, some ⟨g2, 0, none⟩, 0, 64, rfl, by omega, .inl ⟨rfl, rfl, fun _ => by omega⟩, FC_18, FA_21, FG_22, FI_17, Rd.nil _ _, RowAt.rd FZ_19.out, FW_16⟩
  case round =>
    clear FW_16 FI_17 FC_18 FZ_19 FA_21 FG_22
    obtain ⟨k, j, q, qa, c, ca, rfl, hk5, HT, HC, HA, HG, HI, HR, HRA, HW⟩ := hrel
    rcases HT.out with ⟨rfl, rfl, h8⟩ | ⟨rfl, rfl, rfl, h8⟩
    · by_cases hk : k < 5
      · by_cases h82 : 2 ≤ k → A < 8
        · have hk5i : (k : Int) < 5 := by omega
          have kC := row2_cells HC.out
          have kA := row1_cells HA.out
          have kG := row2_cells HG.out
          go_wp2_with fail
          clear kC kA kG
          refine (cstep A n hA0 hn0 k hk h82 k rfl q (cSt A n k).length c rfl (w1.heap.size) qa ca _ HR.out HI.out HRA.out).mono ?_
          rintro e w3 ⟨gs, cs, ga, ca3, rfl, hs, ha, hne, hb3⟩
          have HL3 : Hid (w2.heap.size + 1 < w3.heap.size ∧ w2.heap.size + 1 < wr.heap.size ∧ w3.heap.size ≤ (((w3.alloc (.cells #[.int .i64 ((k : Int) + 1), .slice (some ⟨gs, 0, none⟩) (cSt A n (k + 1)).length cs] 27)).alloc (.cells #[.slice (some ⟨ga, 0, none⟩) 64 ca3] 38)).alloc (.cells #[.int .i64 0, .int .i64 0, .int .i64 0, .int .i64 0] 40)).heap.size) := ⟨Nat.lt_of_lt_of_le (row_lt HG.out) hb3.size, row_lt HG.out, (al3_b w3 _ _ _).size⟩
          have hb4 : Below wr.heap.size wr (((w3.alloc (.cells #[.int .i64 ((k : Int) + 1), .slice (some ⟨gs, 0, none⟩) (cSt A n (k + 1)).length cs] 27)).alloc (.cells #[.slice (some ⟨ga, 0, none⟩) 64 ca3] 38)).alloc (.cells #[.int .i64 0, .int .i64 0, .int .i64 0, .int .i64 0] 40)) := hb3.trans ((al3_b w3 (.cells #[.int .i64 ((k : Int) + 1), .slice (some ⟨gs, 0, none⟩) (cSt A n (k + 1)).length cs] 27) (.cells #[.slice (some ⟨ga, 0, none⟩) 64 ca3] 38) (.cells #[.int .i64 0, .int .i64 0, .int .i64 0, .int .i64 0] 40)).mono hb3.size)
          have HC4 : Hid (_ = _) := row_on HC.out hb4
          have HA4 : Hid (_ = _) := row_on HA.out hb4
          have HG4 : Hid (_ = _) := row_on HG.out hb4
          have HI4 : Hid (I.RowR _ _ _) := I.RowR.on HI.out hb4
          have HS4 : Hid (OwnN (((w3.alloc (.cells #[.int .i64 ((k : Int) + 1), .slice (some ⟨gs, 0, none⟩) (cSt A n (k + 1)).length cs] 27)).alloc (.cells #[.slice (some ⟨ga, 0, none⟩) 64 ca3] 38)).alloc (.cells #[.int .i64 0, .int .i64 0, .int .i64 0, .int .i64 0] 40)) wr.heap.size gs (cSt A n (k + 1)).length cs (cSt A n (k + 1))) := hs.on (al3_b w3 _ _ _)
          have HO4 : Hid (OwnN (((w3.alloc (.cells #[.int .i64 ((k : Int) + 1), .slice (some ⟨gs, 0, none⟩) (cSt A n (k + 1)).length cs] 27)).alloc (.cells #[.slice (some ⟨ga, 0, none⟩) 64 ca3] 38)).alloc (.cells #[.int .i64 0, .int .i64 0, .int .i64 0, .int .i64 0] 40)) wr.heap.size ga 64 ca3 (cCe A n (k + 1))) := ha.on (al3_b w3 _ _ _)
          have HW4 : Hid (Below w0.heap.size w0 (((w3.alloc (.cells #[.int .i64 ((k : Int) + 1), .slice (some ⟨gs, 0, none⟩) (cSt A n (k + 1)).length cs] 27)).alloc (.cells #[.slice (some ⟨ga, 0, none⟩) 64 ca3] 38)).alloc (.cells #[.int .i64 0, .int .i64 0, .int .i64 0, .int .i64 0] 40))) := bel_on (Nat.le_refl _) HW.out hb4
          have HGE : Hid (wr.heap.size ≤ gs ∧ wr.heap.size ≤ ga) := ⟨hs.ge, ha.ge⟩
          have x1 := al3_1 w3 (.cells #[.int .i64 ((k : Int) + 1), .slice (some ⟨gs, 0, none⟩) (cSt A n (k + 1)).length cs] 27) (.cells #[.slice (some ⟨ga, 0, none⟩) 64 ca3] 38) (.cells #[.int .i64 0, .int .i64 0, .int .i64 0, .int .i64 0] 40)
          have x2 := al3_2 w3 (.cells #[.int .i64 ((k : Int) + 1), .slice (some ⟨gs, 0, none⟩) (cSt A n (k + 1)).length cs] 27) (.cells #[.slice (some ⟨ga, 0, none⟩) 64 ca3] 38) (.cells #[.int .i64 0, .int .i64 0, .int .i64 0, .int .i64 0] 40)
          have x3 := al3_3 w3 (.cells #[.int .i64 ((k : Int) + 1), .slice (some ⟨gs, 0, none⟩) (cSt A n (k + 1)).length cs] 27) (.cells #[.slice (some ⟨ga, 0, none⟩) 64 ca3] 38) (.cells #[.int .i64 0, .int .i64 0, .int .i64 0, .int .i64 0] 40)
          have kx1 := row2_cells x1
          have kx2 := row1_cells x2
          have kx3 := row4_cells x3
          have kC := row2_cells HC4.out
          have kA := row1_cells HA4.out
          have m1 : ¬ w3.heap.size = w1.heap.size + 1 := by have := HL3.out; have := HLW.out; omega
          have m2 : ¬ w3.heap.size + 1 = w1.heap.size + 1 := by have := HL3.out; have := HLW.out; omega
          have m3 : ¬ w3.heap.size + 1 + 1 = w1.heap.size + 1 := by have := HL3.out; have := HLW.out; omega
          have m4 : ¬ w3.heap.size = w2.heap.size := by have := HL3.out; omega
          have m5 : ¬ w3.heap.size + 1 = w2.heap.size := by have := HL3.out; omega
          have m6 : ¬ w3.heap.size + 1 + 1 = w2.heap.size := by have := HL3.out; omega
          have m7 : ¬ w2.heap.size = w1.heap.size + 1 := by have := HLW.out; omega
          have m8 : ¬ w1.heap.size + 1 = w2.heap.size := by have := HLW.out; omega
          have HCn : Hid (_ = _) := set_other (k := w2.heap.size) (i := 0) (x := .slice (some ⟨ga, 0, none⟩) 64 ca3) (two_sets (x' := .int .i64 ((k : Int) + 1)) (y' := .slice (some ⟨gs, 0, none⟩) (cSt A n (k + 1)).length cs) HC4.out) m8
          have HAn : Hid (_ = _) := set1_row (i := 0) (x := .slice (some ⟨ga, 0, none⟩) 64 ca3) (set_other (k := w1.heap.size + 1) (i := 1) (x := .slice (some ⟨gs, 0, none⟩) (cSt A n (k + 1)).length cs) (set_other (k := w1.heap.size + 1) (i := 0) (x := .int .i64 ((k : Int) + 1)) HA4.out m7) m7)
          have HGn : Hid (_ = _) := set_other (k := w2.heap.size) (i := 0) (x := .slice (some ⟨ga, 0, none⟩) 64 ca3) (set_other (k := w1.heap.size + 1) (i := 1) (x := .slice (some ⟨gs, 0, none⟩) (cSt A n (k + 1)).length cs) (set_other (k := w1.heap.size + 1) (i := 0) (x := .int .i64 ((k : Int) + 1)) HG4.out (by have := HLW.out; omega)) (by have := HLW.out; omega)) (by have := HLW.out; omega)
          have HIn : Hid (I.RowR _ _ _) := set_other (k := w2.heap.size) (i := 0) (x := .slice (some ⟨ga, 0, none⟩) 64 ca3) (set_other (k := w1.heap.size + 1) (i := 1) (x := .slice (some ⟨gs, 0, none⟩) (cSt A n (k + 1)).length cs) (set_other (k := w1.heap.size + 1) (i := 0) (x := .int .i64 ((k : Int) + 1)) HI4.out (by have := HLW.out; omega)) (by have := HLW.out; omega)) (by have := HLW.out; omega)
          have HSn : Hid (Rd _ _ _) := (((HS4.out.set (i := 0) (k := w1.heap.size + 1) (x := .int .i64 ((k : Int) + 1)) (by have := HGE.out; have := HL3.out; have := HLW.out; omega)).set (i := 1) (k := w1.heap.size + 1) (x := .slice (some ⟨gs, 0, none⟩) (cSt A n (k + 1)).length cs) (by have := HGE.out; have := HL3.out; have := HLW.out; omega)).set (i := 0) (k := w2.heap.size) (x := .slice (some ⟨ga, 0, none⟩) 64 ca3) (by have := HGE.out; have := HL3.out; have := HLW.out; omega)).rd
          have HOn : Hid (Rd _ _ _) := (((HO4.out.set (i := 0) (k := w1.heap.size + 1) (x := .int .i64 ((k : Int) + 1)) (by have := HGE.out; have := HL3.out; have := HLW.out; omega)).set (i := 1) (k := w1.heap.size + 1) (x := .slice (some ⟨gs, 0, none⟩) (cSt A n (k + 1)).length cs) (by have := HGE.out; have := HL3.out; have := HLW.out; omega)).set (i := 0) (k := w2.heap.size) (x := .slice (some ⟨ga, 0, none⟩) 64 ca3) (by have := HGE.out; have := HL3.out; have := HLW.out; omega)).rd
          have HWn : Hid (Below _ _ _) := ((HW4.out.setCell (p := ⟨w1.heap.size + 1, 0, none⟩) (by show w0.heap.size ≤ w1.heap.size + 1; have := HLW.out; omega) (.int .i64 ((k : Int) + 1))).setCell (p := ⟨w1.heap.size + 1, 1, none⟩) (by show w0.heap.size ≤ w1.heap.size + 1; have := HLW.out; omega) (.slice (some ⟨gs, 0, none⟩) (cSt A n (k + 1)).length cs)).setCell (p := ⟨w2.heap.size, 0, none⟩) (by show w0.heap.size ≤ w2.heap.size; have := HLW.out; omega) (.slice (some ⟨ga, 0, none⟩) 64 ca3)
          clear hs ha hne hb3 hb4 x1 x2 x3 HC HA HG HI HR HRA HW HC4 HA4 HG4 HI4 HS4 HO4 HW4
          go_wp2
          go_roundw
          case rel => exact ⟨k + 1, k + 1, some ⟨gs, 0, none⟩, some ⟨ga, 0, none⟩, cs, ca3, by go_num, by omega, .inl ⟨rfl, rfl, fun h => by omega⟩, HCn, HAn, HGn, HIn, HSn, HOn, HWn⟩
          case measure => first | (simp [intOf]; done) | (simp [intOf]; omega)
        · have h8A : 8 ≤ A := by omega
          obtain rfl : k = 2 := by have := h8 h8A; omega
          have kC := row2_cells HC.out
          have kA := row1_cells HA.out
          have kG := row2_cells HG.out
          go_wp2_with fail
          clear kC kA kG
          refine (cstepT A n hA0 hn0 h8A q c (w1.heap.size) qa ca _ HR.out HI.out HRA.out).mono ?_
          rintro e w3 ⟨gs, cs, ga, ca3, rfl, hs, ha, hne, hb3⟩
          have HL3 : Hid (w2.heap.size + 1 < w3.heap.size ∧ w2.heap.size + 1 < wr.heap.size ∧ w3.heap.size ≤ (((w3.alloc (.cells #[.int .i64 2, .slice (some ⟨gs, 0, none⟩) 2 cs] 27)).alloc (.cells #[.slice (some ⟨ga, 0, none⟩) 64 ca3] 38)).alloc (.cells #[.int .i64 0, .int .i64 0, .int .i64 0, .int .i64 2] 40)).heap.size) := ⟨Nat.lt_of_lt_of_le (row_lt HG.out) hb3.size, row_lt HG.out, (al3_b w3 _ _ _).size⟩
          have hb4 : Below wr.heap.size wr (((w3.alloc (.cells #[.int .i64 2, .slice (some ⟨gs, 0, none⟩) 2 cs] 27)).alloc (.cells #[.slice (some ⟨ga, 0, none⟩) 64 ca3] 38)).alloc (.cells #[.int .i64 0, .int .i64 0, .int .i64 0, .int .i64 2] 40)) := hb3.trans ((al3_b w3 (.cells #[.int .i64 2, .slice (some ⟨gs, 0, none⟩) 2 cs] 27) (.cells #[.slice (some ⟨ga, 0, none⟩) 64 ca3] 38) (.cells #[.int .i64 0, .int .i64 0, .int .i64 0, .int .i64 2] 40)).mono hb3.size)
          have HC4 : Hid (_ = _) := row_on HC.out hb4
          have HA4 : Hid (_ = _) := row_on HA.out hb4
          have HG4 : Hid (_ = _) := row_on HG.out hb4
          have HI4 : Hid (I.RowR _ _ _) := I.RowR.on HI.out hb4
          have HS4 : Hid (OwnN (((w3.alloc (.cells #[.int .i64 2, .slice (some ⟨gs, 0, none⟩) 2 cs] 27)).alloc (.cells #[.slice (some ⟨ga, 0, none⟩) 64 ca3] 38)).alloc (.cells #[.int .i64 0, .int .i64 0, .int .i64 0, .int .i64 2] 40)) wr.heap.size gs 2 cs (cSt A n 2)) := hs.on (al3_b w3 _ _ _)
          have HO4 : Hid (OwnN (((w3.alloc (.cells #[.int .i64 2, .slice (some ⟨gs, 0, none⟩) 2 cs] 27)).alloc (.cells #[.slice (some ⟨ga, 0, none⟩) 64 ca3] 38)).alloc (.cells #[.int .i64 0, .int .i64 0, .int .i64 0, .int .i64 2] 40)) wr.heap.size ga 64 ca3 (cCe A n 2)) := ha.on (al3_b w3 _ _ _)
          have HW4 : Hid (Below w0.heap.size w0 (((w3.alloc (.cells #[.int .i64 2, .slice (some ⟨gs, 0, none⟩) 2 cs] 27)).alloc (.cells #[.slice (some ⟨ga, 0, none⟩) 64 ca3] 38)).alloc (.cells #[.int .i64 0, .int .i64 0, .int .i64 0, .int .i64 2] 40))) := bel_on (Nat.le_refl _) HW.out hb4
          have HGE : Hid (wr.heap.size ≤ gs ∧ wr.heap.size ≤ ga) := ⟨hs.ge, ha.ge⟩
          have x1 := al3_1 w3 (.cells #[.int .i64 2, .slice (some ⟨gs, 0, none⟩) 2 cs] 27) (.cells #[.slice (some ⟨ga, 0, none⟩) 64 ca3] 38) (.cells #[.int .i64 0, .int .i64 0, .int .i64 0, .int .i64 2] 40)
          have x2 := al3_2 w3 (.cells #[.int .i64 2, .slice (some ⟨gs, 0, none⟩) 2 cs] 27) (.cells #[.slice (some ⟨ga, 0, none⟩) 64 ca3] 38) (.cells #[.int .i64 0, .int .i64 0, .int .i64 0, .int .i64 2] 40)
          have x3 := al3_3 w3 (.cells #[.int .i64 2, .slice (some ⟨gs, 0, none⟩) 2 cs] 27) (.cells #[.slice (some ⟨ga, 0, none⟩) 64 ca3] 38) (.cells #[.int .i64 0, .int .i64 0, .int .i64 0, .int .i64 2] 40)
          have kx1 := row2_cells x1
          have kx2 := row1_cells x2
          have kx3 := row4_cells x3
          have kC := row2_cells HC4.out
          have kA := row1_cells HA4.out
          have m1 : ¬ w3.heap.size = w1.heap.size + 1 := by have := HL3.out; have := HLW.out; omega
          have m2 : ¬ w3.heap.size + 1 = w1.heap.size + 1 := by have := HL3.out; have := HLW.out; omega
          have m3 : ¬ w3.heap.size + 1 + 1 = w1.heap.size + 1 := by have := HL3.out; have := HLW.out; omega
          have m4 : ¬ w3.heap.size = w2.heap.size := by have := HL3.out; omega
          have m5 : ¬ w3.heap.size + 1 = w2.heap.size := by have := HL3.out; omega
          have m6 : ¬ w3.heap.size + 1 + 1 = w2.heap.size := by have := HL3.out; omega
          have m7 : ¬ w2.heap.size = w1.heap.size + 1 := by have := HLW.out; omega
          have m8 : ¬ w1.heap.size + 1 = w2.heap.size := by have := HLW.out; omega
          have HCn : Hid (_ = _) := set_other (k := w2.heap.size) (i := 0) (x := .slice (some ⟨ga, 0, none⟩) 64 ca3) (two_sets (x' := .int .i64 2) (y' := .slice (some ⟨gs, 0, none⟩) 2 cs) HC4.out) m8
          have HAn : Hid (_ = _) := set1_row (i := 0) (x := .slice (some ⟨ga, 0, none⟩) 64 ca3) (set_other (k := w1.heap.size + 1) (i := 1) (x := .slice (some ⟨gs, 0, none⟩) 2 cs) (set_other (k := w1.heap.size + 1) (i := 0) (x := .int .i64 2) HA4.out m7) m7)
          have HGn : Hid (_ = _) := set_other (k := w2.heap.size) (i := 0) (x := .slice (some ⟨ga, 0, none⟩) 64 ca3) (set_other (k := w1.heap.size + 1) (i := 1) (x := .slice (some ⟨gs, 0, none⟩) 2 cs) (set_other (k := w1.heap.size + 1) (i := 0) (x := .int .i64 2) HG4.out (by have := HLW.out; omega)) (by have := HLW.out; omega)) (by have := HLW.out; omega)
          have HIn : Hid (I.RowR _ _ _) := set_other (k := w2.heap.size) (i := 0) (x := .slice (some ⟨ga, 0, none⟩) 64 ca3) (set_other (k := w1.heap.size + 1) (i := 1) (x := .slice (some ⟨gs, 0, none⟩) 2 cs) (set_other (k := w1.heap.size + 1) (i := 0) (x := .int .i64 2) HI4.out (by have := HLW.out; omega)) (by have := HLW.out; omega)) (by have := HLW.out; omega)
          have HSn : Hid (Rd _ _ _) := (((HS4.out.set (i := 0) (k := w1.heap.size + 1) (x := .int .i64 2) (by have := HGE.out; have := HL3.out; have := HLW.out; omega)).set (i := 1) (k := w1.heap.size + 1) (x := .slice (some ⟨gs, 0, none⟩) 2 cs) (by have := HGE.out; have := HL3.out; have := HLW.out; omega)).set (i := 0) (k := w2.heap.size) (x := .slice (some ⟨ga, 0, none⟩) 64 ca3) (by have := HGE.out; have := HL3.out; have := HLW.out; omega)).rd
          have HOn : Hid (Rd _ _ _) := (((HO4.out.set (i := 0) (k := w1.heap.size + 1) (x := .int .i64 2) (by have := HGE.out; have := HL3.out; have := HLW.out; omega)).set (i := 1) (k := w1.heap.size + 1) (x := .slice (some ⟨gs, 0, none⟩) 2 cs) (by have := HGE.out; have := HL3.out; have := HLW.out; omega)).set (i := 0) (k := w2.heap.size) (x := .slice (some ⟨ga, 0, none⟩) 64 ca3) (by have := HGE.out; have := HL3.out; have := HLW.out; omega)).rd
          have HWn : Hid (Below _ _ _) := ((HW4.out.setCell (p := ⟨w1.heap.size + 1, 0, none⟩) (by show w0.heap.size ≤ w1.heap.size + 1; have := HLW.out; omega) (.int .i64 2)).setCell (p := ⟨w1.heap.size + 1, 1, none⟩) (by show w0.heap.size ≤ w1.heap.size + 1; have := HLW.out; omega) (.slice (some ⟨gs, 0, none⟩) 2 cs)).setCell (p := ⟨w2.heap.size, 0, none⟩) (by show w0.heap.size ≤ w2.heap.size; have := HLW.out; omega) (.slice (some ⟨ga, 0, none⟩) 64 ca3)
          clear hs ha hne hb3 hb4 x1 x2 x3 HC HA HG HI HR HRA HW HC4 HA4 HG4 HI4 HS4 HO4 HW4
          go_wp2
          go_roundw
          case rel => exact ⟨3, 2, some ⟨gs, 0, none⟩, some ⟨ga, 0, none⟩, cs, ca3, by go_num, by omega, .inr ⟨rfl, rfl, rfl, h8A⟩, HCn, HAn, HGn, HIn, HSn, HOn, HWn⟩
          case measure => first | (simp [intOf]; done) | (simp [intOf]; omega)
      · obtain rfl : k = 5 := by omega
        have hA8 : A < 8 := by by_cases h : 8 ≤ A; (have := h8 h; omega); omega
        obtain ⟨gq, oq, rfl, hq⟩ := HR.out (by simp [cSt])
        have hq0 := hq 0 (by simp [cSt])
        obtain ⟨gb, ob, rfl, hqb⟩ := HRA.out (by rw [cCe_len]; decide)
        have hqa := hqb (20 + A).toNat (by rw [cCe_len]; omega)
        have hval : (cCe A n 5)[(20 + A).toNat]'(by rw [cCe_len]; omega) = n := by
          have := st_get hA0.1 hA8 hn0
          rw [List.getD_eq_getElem?_getD, List.getElem?_eq_getElem (by rw [stL_len]; show _ < 64; omega)] at this
          exact this
        rw [hval] at hqa
        have hq0n : wr.cell? ⟨gq, oq + 0, none⟩ = some (.int .i64 n) := hq0
        have e20 : ((20 + A).toNat : Int) = 20 + A := by omega
        have kC := row2_cells HC.out
        have kA := row1_cells HA.out
        clear hq hqb hval hq0 HC HA HG HI HR HRA HT h8
        rw [show (cSt A n 5).length = 1 from rfl] at kC
        rw [Nat.add_zero] at hq0n
        go_wp2
        go_ret
        exact ⟨rfl, HW.out⟩
    · have kA := row1_cells HA.out
      have HQ : Hid (wr.drew.cell? ⟨w2.heap.size, 0, none⟩ = some (.slice qa 64 ca) ∧ Below wr.heap.size wr wr.drew) := ⟨kA.1, (Below.refl _ _).drew⟩
      have hfd := field0
      go_wp2_with fail
      go_region_held3 (fun w' => w'.cell? ⟨w2.heap.size, 0, none⟩ = some (.slice qa 64 ca) ∧ Below wr.heap.size wr w') (first | (with_reducible exact HQ.out) | (with_reducible exact ⟨cell_on HQ.out.1 (undrew' HBz.out), HBz.out⟩) | (with_reducible exact q1_on hb5 (by assumption))) (first | (go_at_call 38; refine (newI _).mono ?_; rintro e w5 ⟨g5, rfl, hg5, hrow5, hb5⟩; have HB5 := undrew hb5) | (go_at_call 36; refine (sameI qa (some ⟨g5, 0, none⟩) z64 64 ca 64 rfl (by decide) _ (HRA.out.on HB5) hrow5.rd).mono ?_; rintro e w6 ⟨rfl, hb6⟩; have HBz : Hid (Below wr.heap.size wr w6) := bel_on (Nat.le_refl _) HB5 hb6))
      rename_i HH
      have HW6 : Hid (Below w0.heap.size w0 w6) := bel_on (Nat.le_refl _) HW.out HBz.out
      clear HH hb5 hb6 HB5 HBz HQ hrow5 hg5
      go_wp2
      go_ret
      exact ⟨rfl, HW6.out⟩

theorem walk (a0 : Option Addr) (len0 cap0 : Nat) (z0 : List Int) (w : World) (w0 : D.IsRow .u8 w a0 len0 cap0 z0) :
    Calls Try.prog 8 #[.slice a0 len0 cap0] w fun e w' => e = .returned (.bool true) ∧ Below w.heap.size w w' := by
  have hlen : len0 ≤ 9223372036854775807 := by
    rcases w0 with ⟨_, h, _⟩ | ⟨x, _, h1, h2, _⟩
    · omega
    · unfold maxLen at h2; omega
  by_cases hb : len0 ≤ 1048576
  · exact cells_in a0 len0 cap0 hb w (D.code_of_row w0 hb)
  · have hb' : 1048576 < len0 := by omega
    go_enter Try.func8, Try.ntmps8
    go_wp2_with fail
    refine (D.big5 a0 len0 cap0 hlen _).mono ?_
    rintro e w1 ⟨rfl, rfl⟩
    rw [decide_eq_true (by omega)]
    go_wp2
    go_ret
    exact ⟨rfl, Below.refl _ _⟩

set_option maxRecDepth 100000 in
theorem lifted (os : Os) (started : os.Started) (H : Type) (enc : TypeId × Value → H) :
    ReturnsInHanded {} Try.checked os 8 .any (Rows.fnCellsOfSpec.pre6 enc Try.prog Try.f8 Rows.fnCellsOfRow.domain false) (Rows.fnCellsOfSpec.post enc Try.prog Try.f8 false true false false) := by
  refine returnsInHanded_of_change (C := Try.checked) own started (by kernel_rfl) Try.func8
    (ChangeSpec.witness6 (enc := enc) (C := Try.checked) false ⟨#[], #[.slice none 0 0], []⟩ 8 (by kernel_rfl) (by kernel_rfl) (by kernel_rfl) (by kernel_rfl)) ?_
  intro W base args ds gs before hval0 hW hcnd _
  have hval : ∀ (j : Nat) t v, Try.f8.params[j]? = some t → args[j]? = some v → Value.okWide Try.prog W .any base t v := hval0
  have hW' := hW
  obtain ⟨p, q, hA0, hV, rfl, hfz, hnd⟩ := hW
  have hA : DataW.TrodAll enc Try.prog W 0 (fun _ => true) true Try.f8.params.toList args.toList ds p := hA0
  rw [Try.params8] at hA hval
  obtain ⟨v0, vs0, d0, ds0, p0, q0, hargs, rfl, rfl, h0, r0⟩ := trodAll_cons hA
  obtain ⟨rfl, rfl, rfl⟩ := trodAll_nil r0
  obtain rfl : args = #[v0] := by cases args; simp_all
  obtain ⟨rfl, rfl⟩ := trodVars_none hV
  have k0 := h0
  have lt0 : ∀ x ∈ p0, x.block < W.heap.size := by obtain ⟨m, hm⟩ := k0; exact DataW.trod_lt m _ _ _ hm
  obtain ⟨a0, len0, cap0, z0, rfl, w0⟩ := D.open_code (hval 0 58 v0 rfl rfl) h0
  clear hA0 hval0
  refine (walk a0 len0 cap0 z0 W w0).mono fun e W' ⟨he, bel⟩ => ?_
  subst he
  exact ⟨_, rfl, _, _, _, [], _, [], hW', trodAll_mk1 (shut_bool Try.underlying4 _), (trodAll_cons_mk (Below.trod laidOut (by kernel_rfl) (of_decide_eq_true (by kernel_rfl)) k0 bel lt0) trodAll_mk0), rfl, bel.frame _, fun h => by cases h⟩

theorem over : Rows.fnCellsOfRow.holds Try.pinned (OpenSpec.ofChange Rows.fnCellsOfSpec) :=
  OpenClaim.holds_of_wide 8 Try.f8 rfl rfl rfl rfl rfl rfl rfl ⟨rfl, rfl, rfl, rfl, rfl⟩ rfl rfl rfl rfl rfl (by kernel_rfl) Try.func8 (by kernel_rfl)
    (of_decide_eq_true (by kernel_rfl)) (by unfold Func.isWrapper; first | (rw [if_pos (by decide +kernel)]; kernel_rfl) | (rw [if_neg (by decide +kernel)]; exact ⟨rfl, rfl⟩))
    (fun os started H enc _ => lifted os started H enc)

end Go.Proofs.Ytbacmkibilhkgaa.fnCellsOf
namespace Go.Proofs.Ytbacmkibilhkgaa
theorem fnCellsOf_holds : Rows.FnCellsOfSaid :=
  fnCellsOf.over
#print axioms fnCellsOf_holds
end Go.Proofs.Ytbacmkibilhkgaa
