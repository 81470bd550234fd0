/-
  Proved: the tied card of FnExactRunDevice: for every list of inputs the call returns true: RunDevice of the program answers as that of the specification (lists whose lengths and texts together pass 1048576 the law itself lets by), the argument reads as before, and the answer owns its memory. Conditions: the listed table holds what its own initialiser lays (the card ties it to the text of the pruned copy of the project).
-/
import Derived.Test.YtfhhnelffldggaaGreatDoorRqAB
import Derived.Test.YtfhhnelffldggaaGreatDoorCards
import Derived.Test.YtfhhnelffldggaaGreatDoorTie
import Derived.Test.YtfhhnelffldggaaGreatDoorRqAD
import Derived.Test.YtfhhnelffldggaaGreatDoorRqBN
import Derived.Test.YtfhhnelffldggaaGreatDoorRqBD
import Derived.Test.YtfhhnelffldggaaGreatDoorRqBA
import Derived.OpenShut
import Derived.OpenVars
import Derived.ChangeVars
import Derived.ShutString
import Derived.ChangeOld
import Derived.Below
import Derived.Deep.DeepHandedRow
import Derived.Lib.LaidTab
set_option maxRecDepth 100000
set_option maxHeartbeats 16000000
namespace Go.Proofs.YtfhhnelffldggaaGreatDoor.fnExactRunDevice
open Go.ChangeShapes Go.WideShapes Go.ChangeAt Go.RowKit Go.PlainAid
open Go.ChangeMaps (open_string shut_string)
set_option linter.unusedVariables false
theorem own : ownKnob Tryz.prog.godebug = none := by kernel_rfl
theorem laidOut : laidOutB Tryz.prog = true := by kernel_rfl
theorem table {W : World} (h : laidMetH Tryz.prog Rows.fnExactRunDeviceRow.laid W) : Q.Tab W := Q.table_of h
theorem loadW {ops : Array Oper} {rest : List Oper} {o : Oper} {a : Act} {w : World} {Q : Exit → Act → World → Prop} (hw : Region.wanted o (yielded ops a.tmps) = true) (ty : TypeId) (x : Operand) (ho : o.op = .load ty x)
    (g : Nat) (hx : a.eval x = .pointer (some ⟨g, 0, none⟩)) (t : TypeId) (cs : Array Value) (fr : Nat × Nat) (d : TypeDesc) (hg : w.heap[g]? = some (.cells cs t fr))
    (hu : Tryz.prog.underlying ty = some d) (hd : (match d with | .struct _ | .array _ _ => true | _ => false) = true) (hi : (Tryz.prog.info? ty).map (·.size) = some cs.size)
    (h : wpList Tryz.prog ops Q rest (a.put o.dst (.agg cs)) w) : wpList Tryz.prog ops Q (o :: rest) a w :=
  BigFrame.wpList_want hw fun _ hK => wp_load_row ty x ho g hx t cs fr d hg hu (by cases d <;> first | rfl | (cases hd)) hi (hK _ _ h)
theorem ownZ_of_row {w : World} {g B n : Nat} {l : List In3} (h : RowZ w g l) (hB : B ≤ g) (hl : l.length = n) (hn : n ≤ 1048576) : w.ownsRow B 46 3 (.slice (some ⟨g, 0, none⟩) n n) n (inV l) := by
  subst hl
  exact ⟨inV_len l, Or.inr ⟨g, l.length, (inV l).toArray, rfl, hB, h, Nat.le_refl _, (by unfold maxLen; omega), by simp [inV_len], by simp; exact List.take_of_length_le (by rw [inV_len]; exact Nat.le_refl _)⟩⟩
theorem walk (a : Option Addr) (n cap : Nat) (l : List In3) (w : World) (hl : l.length = n) (hc : n ≤ cap) (hnx : n ≤ 9223372036854775807) (hr : RdZ w a l) (hs : ∀ j (h : j < l.length), l[j].2.1.size ≤ maxLen ∧ l[j].2.2.size ≤ maxLen) (ht : Q.Tab w) :
    Calls Tryz.prog 5 #[.slice a n cap] w fun e w' => e = .returned (.bool true) ∧ Below w.heap.size w w' := by
  have HL : Hid (l.length = n) := hl
  have HR : Hid (RdZ w a l) := hr
  have HS : Hid (∀ j (h : j < l.length), l[j].2.1.size ≤ maxLen ∧ l[j].2.2.size ≤ maxLen) := hs
  have HT : Hid (Q.Tab w) := ht
  clear hl hr hs ht
  go_enter Tryz.func5, Tryz.ntmps5
  have HB_0 : Hid (Below w.heap.size w w) := Below.refl _ _
  go_wp2_with fail
  refine (szZ a l n cap HL.out hnx HS.out w HR.out).mono ?_
  rintro e w1 ⟨y, rfl, hy, hb⟩
  have HB_1 := bq HB_0 hb
  clear HB_0 hb
  by_cases hy0 : y < 0
  · go_wp2
    go_ret
    exact ⟨rfl, HB_1.out⟩
  have hn : n ≤ 1048576 := hy (by omega)
  clear hy
  obtain ⟨D, B, hl9, ht9, hS, hI⟩ := bothRun l n HL.out hn
  have HSP : Hid (∀ (a : Option Addr) (cap : Nat) (w : World), RdZ w a l → Calls Tryz.prog 9 #[.slice a n cap] w fun e w' => ∃ A nn c TA tn ct, e = .returned (.tuple #[.agg #[.int .i64 D.p.s, .int .i64 D.p.n, .int .i64 D.p.d, .int .i64 D.p.r, .int .i64 D.p.l, .int .i64 D.p.b, .int .i64 D.p.g, .int .i64 D.p.k, .slice A nn c, .int .i64 D.al, .int .i64 D.m.a, .bool D.m.b, .int .i64 D.m.n, .int .i64 D.m.d, .string ⟨D.m.s.toArray⟩, .slice TA tn ct, .int .i64 D.rf], .bool B]) ∧ D.l.length = nn ∧ D.t.length = tn ∧ G.Rd w' A D.l ∧ RdY w' TA D.t ∧ Below w.heap.size w w') := hS
  have HIM : Hid (∀ (a : Option Addr) (cap : Nat) (w : World), Q.Tab w → RdZ w a l → Calls Tryz.prog 8 #[.slice a n cap] w fun e w' => ∃ A nn c TA tn ct, e = .returned (.tuple #[.agg #[.int .i64 D.p.s, .int .i64 D.p.n, .int .i64 D.p.d, .int .i64 D.p.r, .int .i64 D.p.l, .int .i64 D.p.b, .int .i64 D.p.g, .int .i64 D.p.k, .slice A nn c, .int .i64 D.al, .int .i64 D.m.a, .bool D.m.b, .int .i64 D.m.n, .int .i64 D.m.d, .string ⟨D.m.s.toArray⟩, .slice TA tn ct, .int .i64 D.rf], .bool B]) ∧ D.l.length = nn ∧ D.t.length = tn ∧ OwnGN w' w.heap.size A nn c D.l ∧ OwnUN w' w.heap.size TA tn ct D.t ∧ Below w.heap.size w w') := hI
  obtain ⟨nn, hNN⟩ : ∃ x, D.l.length = x := ⟨_, rfl⟩
  obtain ⟨tn, hTN⟩ : ∃ x, D.t.length = x := ⟨_, rfl⟩
  rw [hNN] at hl9
  rw [hTN] at ht9
  have HNN : Hid (D.l.length = nn) := hNN
  have HTN : Hid (D.t.length = tn) := hTN
  clear hS hI hNN hTN
  go_wp2_with fail
  refine (toZs a l n cap HL.out hn _ (HR.out.keep HB_1.out (Nat.le_refl _))).mono ?_
  rintro e w2 ⟨rfl, hz, hb⟩
  have HB_2 := bq HB_1 hb
  have hzls : w1.heap.size < w2.heap.size := row_lt hz
  obtain ⟨gs, hgs⟩ : ∃ x, w1.heap.size = x := ⟨_, rfl⟩
  rw [hgs] at hz hzls ⊢
  have HZs_2 : Hid (RowZ w2 gs l) := hz
  clear HB_1 hb hz
  go_wp2_with fail
  refine (HSP.out (some ⟨gs, 0, none⟩) n w2 HZs_2.out.rd).mono ?_
  rintro e w3 ⟨A0, m0, c0, T0, q0, d0, rfl, hm, hq, hga, hgu, hb⟩
  obtain rfl : nn = m0 := HNN.out.symm.trans hm
  obtain rfl : tn = q0 := HTN.out.symm.trans hq
  clear hm hq
  obtain ⟨s0, hs0⟩ : ∃ x, w2.heap.size = x := ⟨_, rfl⟩
  have hsz0 : s0 ≤ w3.heap.size := by rw [← hs0]; exact hb.size
  have hgs0 : gs < s0 := by rw [← hs0]; exact hzls
  have HB_3 := bq HB_2 hb
  have HZs_3 : Hid (RowZ w3 gs l) := HZs_2.out.on hb
  have HG0_3 : Hid (G.Rd w3 A0 D.l) := hga
  have HU0_3 : Hid (RdY w3 T0 D.t) := hgu
  clear HB_2 HZs_2 hb hga hgu hs0 hzls
  obtain ⟨b0, hb0⟩ : ∃ x, w3.heap.size = x := ⟨_, rfl⟩
  have HN : Hid ((w3.alloc (dZ)).heap[b0]? = some (dZ)) := by rw [← hb0]; exact heap_new w3 _
  go_wp2_with (refine listStoreD rfl rfl _ _ _ rfl rfl b0 (dR D.p (.slice A0 nn c0) D.al D.m (.slice T0 tn d0) D.rf) rfl rfl rfl (by kernel_rfl) HN.out rfl ?_)
  intro w4 hput
  have hb : Below w3.heap.size w3 w4 := hput.2.2.2 _ _ (by omega) (alM _ _)
  have HB_4 := bq HB_3 hb
  have HZs_4 : Hid (RowZ w4 gs l) := HZs_3.out.on hb
  have HG0_4 : Hid (G.Rd w4 A0 D.l) := HG0_3.out.keep hb (Nat.le_refl _)
  have HU0_4 : Hid (RdY w4 T0 D.t) := HU0_3.out.keep hb (Nat.le_refl _)
  have HX0_4 : Hid (w4.heap[b0]? = some (dO D.p (.slice A0 nn c0) D.al D.m (.slice T0 tn d0) D.rf)) := hput.1
  have hsb0 : s0 ≤ b0 := by rw [← hb0]; exact hsz0
  clear HB_3 HZs_3 HG0_3 HU0_3 hput hb HN hb0 hsz0
  clear HZs_4
  obtain ⟨sb, hsb⟩ : ∃ x, w4.heap.size = x := ⟨_, rfl⟩
  have hwb : w.heap.size ≤ sb := by rw [← hsb]; exact HB_4.out.size
  have HX0b : Hid (w4.heap[b0]? = some (dO D.p (.slice A0 nn c0) D.al D.m (.slice T0 tn d0) D.rf)) := HX0_4.out
  have HG0b : Hid (G.Rd w4 A0 D.l) := HG0_4.out
  have HU0b : Hid (RdY w4 T0 D.t) := HU0_4.out
  clear HX0_4
  clear HG0_4
  clear HU0_4
  have HC_4 : Hid (Below w4.heap.size w4 w4) := Below.refl _ _
  go_wp2_with fail
  refine (toZs a l n cap HL.out hn _ (HR.out.keep HB_4.out (Nat.le_refl _))).mono ?_
  rintro e w5 ⟨rfl, hz, hb⟩
  have HB_5 := bq HB_4 hb
  have HC_5 : Hid (Below w4.heap.size w4 w5) := bel_on (Nat.le_refl _) HC_4.out hb
  have hzlx : w4.heap.size < w5.heap.size := row_lt hz
  obtain ⟨gx, hgx⟩ : ∃ x, w4.heap.size = x := ⟨_, rfl⟩
  rw [hgx] at hz hzlx ⊢
  have HZx_5 : Hid (RowZ w5 gx l) := hz
  clear HB_4 HC_4 hb hz
  have hgxb : sb ≤ gx := by rw [← hsb, ← hgx]; exact Nat.le_refl _
  go_wp2_with fail
  refine (HIM.out (some ⟨gx, 0, none⟩) n w5 (Q.tab_below HT.out HB_5.out) HZx_5.out.rd).mono ?_
  rintro e w6 ⟨A1, m1, c1, T1, q1, d1, rfl, hm, hq, hga, hgu, hb⟩
  obtain rfl : nn = m1 := HNN.out.symm.trans hm
  obtain rfl : tn = q1 := HTN.out.symm.trans hq
  clear hm hq
  obtain ⟨s1, hs1⟩ : ∃ x, w5.heap.size = x := ⟨_, rfl⟩
  have hsz1 : s1 ≤ w6.heap.size := by rw [← hs1]; exact hb.size
  have hgs1 : gx < s1 := by rw [← hs1]; exact hzlx
  rw [hs1] at hga hgu
  have HB_6 := bq HB_5 hb
  have HC_6 : Hid (Below w4.heap.size w4 w6) := bel_on (Nat.le_refl _) HC_5.out hb
  have HZx_6 : Hid (RowZ w6 gx l) := HZx_5.out.on hb
  have HG1_6 : Hid (OwnGN w6 s1 A1 nn c1 D.l) := hga
  have HU1_6 : Hid (OwnUN w6 s1 T1 tn d1 D.t) := hgu
  clear HB_5 HC_5 HZx_5 hb hga hgu hs1 hzlx
  obtain ⟨b1, hb1⟩ : ∃ x, w6.heap.size = x := ⟨_, rfl⟩
  have HN : Hid ((w6.alloc (dZ)).heap[b1]? = some (dZ)) := by rw [← hb1]; exact heap_new w6 _
  go_wp2_with (refine listStoreD rfl rfl _ _ _ rfl rfl b1 (dR D.p (.slice A1 nn c1) D.al D.m (.slice T1 tn d1) D.rf) rfl rfl rfl (by kernel_rfl) HN.out rfl ?_)
  intro w7 hput
  have hb : Below w6.heap.size w6 w7 := hput.2.2.2 _ _ (by omega) (alM _ _)
  have HB_7 := bq HB_6 hb
  have HC_7 : Hid (Below w4.heap.size w4 w7) := bel_on (Nat.le_refl _) HC_6.out hb
  have HZx_7 : Hid (RowZ w7 gx l) := HZx_6.out.on hb
  have HG1_7 : Hid (OwnGN w7 s1 A1 nn c1 D.l) := HG1_6.out.on hb
  have HU1_7 : Hid (OwnUN w7 s1 T1 tn d1 D.t) := HU1_6.out.on hb
  have HX1_7 : Hid (w7.heap[b1]? = some (dO D.p (.slice A1 nn c1) D.al D.m (.slice T1 tn d1) D.rf)) := hput.1
  have hsb1 : s1 ≤ b1 := by rw [← hb1]; exact hsz1
  clear HB_6 HC_6 HZx_6 HG1_6 HU1_6 hput hb HN hb1 hsz1
  go_wp2_with (first | refine wpList_load_row rfl _ _ rfl b1 rfl _ _ _ _ HX1_7.out Tryz.underlying37 rfl (by kernel_rfl) ?_ | refine wpList_load_row rfl _ _ rfl b0 rfl _ _ _ _ (row_on HX0b.out HC_7.out) Tryz.underlying37 rfl (by kernel_rfl) ?_)
  refine (eqDv D.p A1 A0 nn c1 c0 D.l D.al D.m T1 T0 tn d1 d0 D.t D.rf HNN.out (by omega) HTN.out (by omega) _ HG1_7.out.rd (HG0b.out.keep HC_7.out (Nat.le_refl _)) HU1_7.out.rd (HU0b.out.keep HC_7.out (Nat.le_refl _))).mono ?_
  rintro e w8 ⟨rfl, hb⟩
  have HB_8 := bq HB_7 hb
  have HC_8 : Hid (Below w4.heap.size w4 w8) := bel_on (Nat.le_refl _) HC_7.out hb
  have HZx_8 : Hid (RowZ w8 gx l) := HZx_7.out.on hb
  have HG1_8 : Hid (OwnGN w8 s1 A1 nn c1 D.l) := HG1_7.out.on hb
  have HU1_8 : Hid (OwnUN w8 s1 T1 tn d1 D.t) := HU1_7.out.on hb
  have HX1_8 : Hid (w8.heap[b1]? = some (dO D.p (.slice A1 nn c1) D.al D.m (.slice T1 tn d1) D.rf)) := row_on HX1_7.out hb
  clear HB_7 HC_7 HZx_7 HG1_7 HU1_7 HX1_7 hb
  go_wp2_with fail
  refine (toZs a l n cap HL.out hn _ (HR.out.keep HB_8.out (Nat.le_refl _))).mono ?_
  rintro e w9 ⟨rfl, hz, hb⟩
  have HB_9 := bq HB_8 hb
  have HC_9 : Hid (Below w4.heap.size w4 w9) := bel_on (Nat.le_refl _) HC_8.out hb
  have HZx_9 : Hid (RowZ w9 gx l) := HZx_8.out.on hb
  have HG1_9 : Hid (OwnGN w9 s1 A1 nn c1 D.l) := HG1_8.out.on hb
  have HU1_9 : Hid (OwnUN w9 s1 T1 tn d1 D.t) := HU1_8.out.on hb
  have HX1_9 : Hid (w9.heap[b1]? = some (dO D.p (.slice A1 nn c1) D.al D.m (.slice T1 tn d1) D.rf)) := row_on HX1_8.out hb
  have hzly : w8.heap.size < w9.heap.size := row_lt hz
  obtain ⟨gy, hgy⟩ : ∃ x, w8.heap.size = x := ⟨_, rfl⟩
  rw [hgy] at hz hzly ⊢
  have HZy_9 : Hid (RowZ w9 gy l) := hz
  clear HB_8 HC_8 HZx_8 HG1_8 HU1_8 HX1_8 hb hz
  go_wp2_with fail
  refine (eqZs (some ⟨gx, 0, none⟩) (some ⟨gy, 0, none⟩) l n n n HL.out hn _ HZx_9.out.rd HZy_9.out.rd).mono ?_
  rintro e w10 ⟨rfl, hb⟩
  have HB_10 := bq HB_9 hb
  have HC_10 : Hid (Below w4.heap.size w4 w10) := bel_on (Nat.le_refl _) HC_9.out hb
  have HZx_10 : Hid (RowZ w10 gx l) := HZx_9.out.on hb
  have HG1_10 : Hid (OwnGN w10 s1 A1 nn c1 D.l) := HG1_9.out.on hb
  have HU1_10 : Hid (OwnUN w10 s1 T1 tn d1 D.t) := HU1_9.out.on hb
  have HX1_10 : Hid (w10.heap[b1]? = some (dO D.p (.slice A1 nn c1) D.al D.m (.slice T1 tn d1) D.rf)) := row_on HX1_9.out hb
  have HZy_10 : Hid (RowZ w10 gy l) := HZy_9.out.on hb
  clear HB_9 HC_9 HZx_9 HG1_9 HU1_9 HX1_9 HZy_9 hb
  clear HZy_10
  go_wp2_with fail
  have hoz := ownZ_of_row HZx_10.out (Nat.le_refl gx) HL.out hn
  refine (Z.markZ l gx gx n n 1 1 rfl HL.out hn ⟨by omega, by omega⟩ _ hoz (Nat.le_of_lt HZx_10.out.lt)).mono ?_
  rintro e w11 ⟨rfl, _, hb, hgr⟩
  clear hoz
  have HB_11 : Hid (Below w.heap.size w w11) := HB_10.out.trans (hb.mono (by omega))
  have HC_11 : Hid (Below w4.heap.size w4 w11) := HC_10.out.trans (hb.mono (by omega))
  have HG1_11 : Hid (OwnGN w11 s1 A1 nn c1 D.l) := HG1_10.out.same (fun g hg hlt => hgr.block g hlt (fun e => by have := Option.some.inj e; omega))
  have HU1_11 : Hid (OwnUN w11 s1 T1 tn d1 D.t) := HU1_10.out.same (fun g hg hlt => hgr.block g hlt (fun e => by have := Option.some.inj e; omega))
  have HX1_11 : Hid (w11.heap[b1]? = some (dO D.p (.slice A1 nn c1) D.al D.m (.slice T1 tn d1) D.rf)) := (hgr.block _ (row_lt HX1_10.out) (fun e => by have := Option.some.inj e; omega)).trans HX1_10.out
  clear HB_10 HC_10 HZx_10 HG1_10 HU1_10 HX1_10 hb hgr
  go_wp2_with (first | refine wpList_load_row rfl _ _ rfl b1 rfl _ _ _ _ HX1_11.out Tryz.underlying37 rfl (by kernel_rfl) ?_ | refine wpList_load_row rfl _ _ rfl b0 rfl _ _ _ _ (row_on HX0b.out HC_11.out) Tryz.underlying37 rfl (by kernel_rfl) ?_ | refine loadW (by rfl) _ _ rfl b1 rfl _ _ _ _ HX1_11.out Tryz.underlying37 rfl (by kernel_rfl) ?_ | refine loadW (by rfl) _ _ rfl b0 rfl _ _ _ _ (row_on HX0b.out HC_11.out) Tryz.underlying37 rfl (by kernel_rfl) ?_)
  refine (eqDv D.p A1 A0 nn c1 c0 D.l D.al D.m T1 T0 tn d1 d0 D.t D.rf HNN.out (by omega) HTN.out (by omega) _ HG1_11.out.rd (HG0b.out.keep HC_11.out (Nat.le_refl _)) HU1_11.out.rd (HU0b.out.keep HC_11.out (Nat.le_refl _))).mono ?_
  rintro e w12 ⟨rfl, hb⟩
  have HB_12 := bq HB_11 hb
  have HC_12 : Hid (Below w4.heap.size w4 w12) := bel_on (Nat.le_refl _) HC_11.out hb
  have HG1_12 : Hid (OwnGN w12 s1 A1 nn c1 D.l) := HG1_11.out.on hb
  have HU1_12 : Hid (OwnUN w12 s1 T1 tn d1 D.t) := HU1_11.out.on hb
  have HX1_12 : Hid (w12.heap[b1]? = some (dO D.p (.slice A1 nn c1) D.al D.m (.slice T1 tn d1) D.rf)) := row_on HX1_11.out hb
  clear HB_11 HC_11 HG1_11 HU1_11 HX1_11 hb
  have hs1w : s1 ≤ w12.heap.size := Nat.le_of_lt (Nat.lt_of_le_of_lt hsb1 (row_lt HX1_12.out))
  go_wp2_with (refine wpList_load_row rfl _ _ rfl b1 rfl _ _ _ _ HX1_12.out Tryz.underlying37 rfl (by kernel_rfl) ?_)
  refine (markDv D.p A1 nn c1 D.al D.m T1 tn d1 D.rf D.l D.t s1 _ hs1w HNN.out HTN.out hl9 ht9 HG1_12.out HU1_12.out).mono ?_
  rintro e w13 ⟨rfl, hmg, hmu, hb, hdev⟩
  have HB_13 : Hid (Below w.heap.size w w13) := HB_12.out.trans (hb.mono (by omega))
  have HC_13 : Hid (Below w4.heap.size w4 w13) := HC_12.out.trans (hb.mono (by omega))
  have HX1_13 : Hid (w13.heap[b1]? = some (dO D.p (.slice A1 nn c1) D.al D.m (.slice T1 tn d1) D.rf)) := hdev _ _ _ HX1_12.out
  have HMG : Hid (G.Rd w13 A1 (G.marks 1 nn)) := hmg
  have HMU : Hid (RdY w13 T1 (myM (1 + nn) tn)) := hmu
  clear HB_12 HC_12 HG1_12 HU1_12 HX1_12 hb hdev hmg hmu hs1w
  have HM_13 : Hid (Below w13.heap.size w13 w13) := Below.refl _ _
  go_wp2_with (refine wpList_load_row rfl _ _ rfl b1 rfl _ _ _ _ HX1_13.out Tryz.underlying37 rfl (by kernel_rfl) ?_)
  refine (heldDv D.p A1 nn c1 D.al D.m T1 tn d1 D.rf _ hl9 ht9 (HMG.out.keep HM_13.out (Nat.le_refl _)) (HMU.out.keep HM_13.out (Nat.le_refl _))).mono ?_
  rintro e w14 ⟨rfl, hb⟩
  have HB_14 := bq HB_13 hb
  have HC_14 : Hid (Below w4.heap.size w4 w14) := bel_on (Nat.le_refl _) HC_13.out hb
  have HX1_14 : Hid (w14.heap[b1]? = some (dO D.p (.slice A1 nn c1) D.al D.m (.slice T1 tn d1) D.rf)) := row_on HX1_13.out hb
  have HM_14 : Hid (Below w13.heap.size w13 w14) := bel_on (Nat.le_refl _) HM_13.out hb
  clear HB_13 HC_13 HX1_13 HM_13 hb
  go_wp2_with fail
  refine (toZs a l n cap HL.out hn _ (HR.out.keep HB_14.out (Nat.le_refl _))).mono ?_
  rintro e w15 ⟨rfl, hz, hb⟩
  have HB_15 := bq HB_14 hb
  have HC_15 : Hid (Below w4.heap.size w4 w15) := bel_on (Nat.le_refl _) HC_14.out hb
  have HX1_15 : Hid (w15.heap[b1]? = some (dO D.p (.slice A1 nn c1) D.al D.m (.slice T1 tn d1) D.rf)) := row_on HX1_14.out hb
  have HM_15 : Hid (Below w13.heap.size w13 w15) := bel_on (Nat.le_refl _) HM_14.out hb
  have hzlv : w14.heap.size < w15.heap.size := row_lt hz
  obtain ⟨gv, hgv⟩ : ∃ x, w14.heap.size = x := ⟨_, rfl⟩
  rw [hgv] at hz hzlv ⊢
  have HZv_15 : Hid (RowZ w15 gv l) := hz
  clear HB_14 HC_14 HX1_14 HM_14 hb hz
  go_wp2_with fail
  refine (HIM.out (some ⟨gv, 0, none⟩) n w15 (Q.tab_below HT.out HB_15.out) HZv_15.out.rd).mono ?_
  rintro e w16 ⟨A2, m2, c2, T2, q2, d2, rfl, hm, hq, hga, hgu, hb⟩
  obtain rfl : nn = m2 := HNN.out.symm.trans hm
  obtain rfl : tn = q2 := HTN.out.symm.trans hq
  clear hm hq
  obtain ⟨s2, hs2⟩ : ∃ x, w15.heap.size = x := ⟨_, rfl⟩
  have hsz2 : s2 ≤ w16.heap.size := by rw [← hs2]; exact hb.size
  have hgs2 : gv < s2 := by rw [← hs2]; exact hzlv
  rw [hs2] at hga hgu
  have HB_16 := bq HB_15 hb
  have HC_16 : Hid (Below w4.heap.size w4 w16) := bel_on (Nat.le_refl _) HC_15.out hb
  have HX1_16 : Hid (w16.heap[b1]? = some (dO D.p (.slice A1 nn c1) D.al D.m (.slice T1 tn d1) D.rf)) := row_on HX1_15.out hb
  have HM_16 : Hid (Below w13.heap.size w13 w16) := bel_on (Nat.le_refl _) HM_15.out hb
  have HZv_16 : Hid (RowZ w16 gv l) := HZv_15.out.on hb
  have HG2_16 : Hid (OwnGN w16 s2 A2 nn c2 D.l) := hga
  have HU2_16 : Hid (OwnUN w16 s2 T2 tn d2 D.t) := hgu
  clear HB_15 HC_15 HX1_15 HM_15 HZv_15 hb hga hgu hs2 hzlv
  obtain ⟨b2, hb2⟩ : ∃ x, w16.heap.size = x := ⟨_, rfl⟩
  have HN : Hid ((w16.alloc (dZ)).heap[b2]? = some (dZ)) := by rw [← hb2]; exact heap_new w16 _
  go_wp2_with (refine listStoreD rfl rfl _ _ _ rfl rfl b2 (dR D.p (.slice A2 nn c2) D.al D.m (.slice T2 tn d2) D.rf) rfl rfl rfl (by kernel_rfl) HN.out rfl ?_)
  intro w17 hput
  have hb : Below w16.heap.size w16 w17 := hput.2.2.2 _ _ (by omega) (alM _ _)
  have HB_17 := bq HB_16 hb
  have HC_17 : Hid (Below w4.heap.size w4 w17) := bel_on (Nat.le_refl _) HC_16.out hb
  have HX1_17 : Hid (w17.heap[b1]? = some (dO D.p (.slice A1 nn c1) D.al D.m (.slice T1 tn d1) D.rf)) := row_on HX1_16.out hb
  have HM_17 : Hid (Below w13.heap.size w13 w17) := bel_on (Nat.le_refl _) HM_16.out hb
  have HZv_17 : Hid (RowZ w17 gv l) := HZv_16.out.on hb
  have HG2_17 : Hid (OwnGN w17 s2 A2 nn c2 D.l) := HG2_16.out.on hb
  have HU2_17 : Hid (OwnUN w17 s2 T2 tn d2 D.t) := HU2_16.out.on hb
  have HX2_17 : Hid (w17.heap[b2]? = some (dO D.p (.slice A2 nn c2) D.al D.m (.slice T2 tn d2) D.rf)) := hput.1
  have hsb2 : s2 ≤ b2 := by rw [← hb2]; exact hsz2
  clear HB_16 HC_16 HX1_16 HM_16 HZv_16 HG2_16 HU2_16 hput hb HN hb2 hsz2
  clear HZv_17
  go_wp2_with (first | refine wpList_load_row rfl _ _ rfl b2 rfl _ _ _ _ HX2_17.out Tryz.underlying37 rfl (by kernel_rfl) ?_ | refine wpList_load_row rfl _ _ rfl b0 rfl _ _ _ _ (row_on HX0b.out HC_17.out) Tryz.underlying37 rfl (by kernel_rfl) ?_)
  refine (eqDv D.p A2 A0 nn c2 c0 D.l D.al D.m T2 T0 tn d2 d0 D.t D.rf HNN.out (by omega) HTN.out (by omega) _ HG2_17.out.rd (HG0b.out.keep HC_17.out (Nat.le_refl _)) HU2_17.out.rd (HU0b.out.keep HC_17.out (Nat.le_refl _))).mono ?_
  rintro e w18 ⟨rfl, hb⟩
  have HB_18 := bq HB_17 hb
  have HC_18 : Hid (Below w4.heap.size w4 w18) := bel_on (Nat.le_refl _) HC_17.out hb
  have HX1_18 : Hid (w18.heap[b1]? = some (dO D.p (.slice A1 nn c1) D.al D.m (.slice T1 tn d1) D.rf)) := row_on HX1_17.out hb
  have HM_18 : Hid (Below w13.heap.size w13 w18) := bel_on (Nat.le_refl _) HM_17.out hb
  have HG2_18 : Hid (OwnGN w18 s2 A2 nn c2 D.l) := HG2_17.out.on hb
  have HU2_18 : Hid (OwnUN w18 s2 T2 tn d2 D.t) := HU2_17.out.on hb
  have HX2_18 : Hid (w18.heap[b2]? = some (dO D.p (.slice A2 nn c2) D.al D.m (.slice T2 tn d2) D.rf)) := row_on HX2_17.out hb
  clear HB_17 HC_17 HX1_17 HM_17 HG2_17 HU2_17 HX2_17 hb
  clear HX2_18
  clear HG2_18
  clear HU2_18
  go_wp2_with (refine wpList_load_row rfl _ _ rfl b1 rfl _ _ _ _ HX1_18.out Tryz.underlying37 rfl (by kernel_rfl) ?_)
  refine (heldDv D.p A1 nn c1 D.al D.m T1 tn d1 D.rf _ hl9 ht9 (HMG.out.keep HM_18.out (Nat.le_refl _)) (HMU.out.keep HM_18.out (Nat.le_refl _))).mono ?_
  rintro e w19 ⟨rfl, hb⟩
  have HB_19 := bq HB_18 hb
  have HC_19 : Hid (Below w4.heap.size w4 w19) := bel_on (Nat.le_refl _) HC_18.out hb
  have HX1_19 : Hid (w19.heap[b1]? = some (dO D.p (.slice A1 nn c1) D.al D.m (.slice T1 tn d1) D.rf)) := row_on HX1_18.out hb
  have HM_19 : Hid (Below w13.heap.size w13 w19) := bel_on (Nat.le_refl _) HM_18.out hb
  clear HB_18 HC_18 HX1_18 HM_18 hb
  go_wp2
  go_ret
  exact ⟨rfl, HB_19.out⟩
theorem contract (H : Type) (enc : TypeId × Value → H) (W : World) (base : Nat) (args : Array Value) (ds gs : List (DataW H)) (before : List MemPlace)
    (hval : ∀ (j : Nat) t v, Tryz.f5.params[j]? = some t → args[j]? = some v → Value.okWide Tryz.prog W .any base t v)
    (hW : DataW.Whole enc Tryz.prog Tryz.f5.params.toList Rows.fnExactRunDeviceSpec.vars false W args.toList ds gs before) (hL : laidMetH Tryz.prog Rows.fnExactRunDeviceRow.laid W) :
    Calls Tryz.prog 5 args W fun e W' => ∃ v, e = .returned v ∧ Rows.fnExactRunDeviceSpec.post enc Tryz.prog Tryz.f5 false true false false W args v W' := by
  have hW' := hW
  obtain ⟨p, q, hA0, hV, rfl, hfz, hnd⟩ := hW
  have hA : DataW.TrodAll enc Tryz.prog W 0 (fun _ => true) true Tryz.f5.params.toList args.toList ds p := hA0
  rw [Tryz.params5] at hA hval
  obtain ⟨v0, vs0, d0, ds0, p0, q0, hargs, rfl, rfl, h0, r0⟩ := trodAll_cons hA
  obtain ⟨rfl, rfl, rfl⟩ := trodAll_nil r0
  obtain rfl : args = #[v0] := by cases args; simp_all
  have hV' : DataW.TrodVars enc Tryz.prog W (fun _ => true) ["loop.example/g00200/impl.halfSums"] gs q := hV
  obtain ⟨gv, tv, csv, fuelv, dv, pv, rfl, _, _, _, _, rfl⟩ := trodVars_one hV'
  have k0 := h0
  have lt0 : ∀ x ∈ p0, x.block < W.heap.size := by obtain ⟨m, hm⟩ := k0; exact DataW.trod_lt m _ _ _ hm
  obtain ⟨a0, n0, cap0, l0, rfl, wa0, wb0, wc0, wd0, we0⟩ := openZ_v (hval 0 48 v0 rfl rfl) h0
  clear hA0
  refine (walk a0 n0 cap0 l0 W wa0 wb0 wc0 wd0 we0 (table hL)).mono fun e W' ⟨he, bel⟩ => ?_
  subst he
  exact ⟨_, rfl, _, _, _, [], _, _, hW', trodAll_mk1 (shut_bool Tryz.underlying4 _), (trodAll_cons_mk (Below.trod laidOut (by kernel_rfl) (of_decide_eq_true (by kernel_rfl)) k0 bel lt0) trodAll_mk0), bel.trodVars laidOut (by kernel_rfl) hV, bel.frame _, fun h => by cases h⟩
theorem laid_met (os : Os) : laidMet Tryz.prog Rows.fnExactRunDeviceRow.laid ((Q.layW (World.holding Tryz.prog os ⟨#[], #[], []⟩)).forCall (fun _ _ => 0) ⟨#[], #[.slice none 0 0], []⟩).memory :=
  laidMet_of_run' 8 (by kernel_rfl) (by kernel_rfl)
theorem reads (os : Os) {H : Type} (enc : TypeId × Value → H) : ∃ places, DataW.whole enc Tryz.prog ((Q.layW (World.holding Tryz.prog os ⟨#[], #[], []⟩)).forCall (fun _ _ => 0) ⟨#[], #[.slice none 0 0], []⟩).memory Tryz.f5.params.toList Rows.fnExactRunDeviceSpec.vars false #[Value.slice none 0 0].toList 8 = some ([.nil], [Rows.laid_loop_example_g00200_impl_halfSums], places) :=
  ⟨MemPlace.row ⟨0, 0, none⟩ 16, by kernel_rfl⟩
theorem lifted (os : Os) (started : os.Started) (H : Type) (enc : TypeId × Value → H) (F : Stop.Interp) :
    ReturnsInHanded {} Tryz.checked os 5 .any ((OpenSpec.ofChange Rows.fnExactRunDeviceSpec).preRow enc Tryz.prog Tryz.f5 Rows.fnExactRunDeviceRow.domain false Rows.fnExactRunDeviceRow.laid) (((OpenSpec.ofChange Rows.fnExactRunDeviceSpec).at F).post enc Tryz.prog Tryz.f5 false true false false) := by
  obtain ⟨places, hx⟩ := reads os enc
  refine returnsInHanded_of_row (C := Tryz.checked) (s := OpenSpec.ofChange Rows.fnExactRunDeviceSpec) own started (by kernel_rfl) Tryz.func5
    (witness_row_at (enc := enc) (C := Tryz.checked) false (Q.layW (World.holding Tryz.prog os ⟨#[], #[], []⟩)) #[.slice none 0 0] rfl (by kernel_rfl) (by kernel_rfl) (by kernel_rfl)
      (OpenSpec.preRow_of_cond 8 hx (by kernel_rfl) (fun k hk => by cases hk) (by kernel_rfl) (laid_met os))) ?_
  intro W base args ds gs before hval hW _ _ _ hL _ _
  exact contract H enc W base args ds gs before hval hW hL
theorem said : Rows.FnExactRunDeviceSaid :=
  OpenClaim.holds_of_cond 5 Tryz.f5 rfl rfl rfl rfl rfl rfl rfl ⟨rfl, rfl, rfl, rfl, rfl⟩ rfl rfl rfl rfl rfl (by kernel_rfl) Tryz.func5 (by kernel_rfl)
    (of_decide_eq_true (by kernel_rfl)) (by unfold Func.isWrapper; first | (rw [if_pos (by decide +kernel)]; kernel_rfl) | (rw [if_neg (by decide +kernel)]; exact ⟨rfl, rfl⟩))
    (fun os started H enc _ F => by rw [OpenClaim.pre_eq_preRow]; exact lifted os started H enc F)
theorem plain (f : FuncId) (fn : Func) (hf : Tryz.pinned.checked.prog.funcNamed Rows.fnExactRunDeviceRow.func = some f) (hfn : Tryz.pinned.checked.prog.funcs[f]? = some fn) :
    false = Tryz.pinned.checked.prog.looks [] ∧ ∀ (j : Nat) t, fn.params[j]? = some t → Tryz.pinned.checked.prog.wantsStandIn t = false := by
  obtain rfl : f = 5 := Option.some.inj ((show Tryz.prog.funcNamed Rows.fnExactRunDeviceRow.func = some 5 by kernel_rfl).symm.trans hf) |>.symm
  obtain rfl : fn = Tryz.f5 := (Option.some.inj (Tryz.func5.symm.trans hfn)).symm
  refine ⟨by kernel_rfl, fun j t ht => ?_⟩
  rw [Tryz.params5] at ht
  obtain rfl : t = 48 := by simpa using Array.mem_of_getElem? ht
  exact (show Tryz.prog.wantsStandIn 48 = false by kernel_rfl)
theorem card : Rows.FnExactRunDeviceCardSaid :=
  Claim7.holds_tied_plain_at .later [] _ _ _ _ said (fun _ h => by cases h) (by kernel_rfl) (fun _ h => by cases h) fnExactRunDevice_row_tie rfl ⟨rfl, rfl⟩ (by kernel_rfl) rfl plain (by kernel_rfl)
end Go.Proofs.YtfhhnelffldggaaGreatDoor.fnExactRunDevice
namespace Go.Proofs.YtfhhnelffldggaaGreatDoor
theorem fnExactRunDevice_card : Rows.FnExactRunDeviceCardSaid :=
  fnExactRunDevice.card
#print axioms fnExactRunDevice_card
end Go.Proofs.YtfhhnelffldggaaGreatDoor
