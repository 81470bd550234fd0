/-
  The specification's step: no such instruction, too few numbers.
-/
import Derived.Test.YthnocibkgpofnaaSpecA
namespace Go.Proofs.Ythnocibkgpofnaa
open Go.RowKit Go.PlainAid
set_option linter.unusedVariables false
set_option maxRecDepth 100000 in
set_option maxHeartbeats 3000000 in
theorem specBig (qs : Option Addr) (pc : Int) (st : List Int) (n cp : Nat) (qc : Option Addr) (rl : List (Int × Int)) (nc cc : Nat) (ad : Addr) (ce : List Int) (m ca : Nat) (f s t : Int) (hl : st.length = n) (hn : n ≤ 1048576) (hqs : qs = none → n = 0 ∧ cp = 0) (hlc : rl.length = nc) (hnc : nc ≤ 1048576) (hla : ce.length = m) (hm : m ≤ 1048576) (j : Nat) (op arg : Int) (hc : CpuR pc st) (hk : I.CodeR rl) (hj : pc = j) (hjl : j < nc) (hx : rl[j]? = some (op, arg)) (hbig : 17 < op) (w : World) (hr : Rd w qs st) (hrc : I.RdR w qc rl) (hra : Rd w (some ad) ce) :
    Calls Try.prog 28 #[.agg #[.int .i64 pc, .slice qs n cp], .slice qc nc cc, .agg #[.slice (some ad) m ca], .agg #[.int .i64 f, .int .i64 s], .int .i64 t] w (StepPost w m (trapR pc st ce 1) n) := by
  have HC : Hid (CpuR pc st) := hc
  have HK : Hid (I.CodeR rl) := hk
  have HI : Hid (rl[j]? = some (op, arg)) := hx
  have hp0 : 0 ≤ pc ∧ pc < 60 := by have h_ := hk.1; omega
  clear hc hk hx
  subst hj
  have HX0 : Hid (Six w _ (j : Int) (.slice qs n cp) (.slice (some ad) m ca) f s) := six_is w (j : Int) (.slice qs n cp) (.slice (some ad) m ca) f s
  have HR : Hid (Rd w qs st) := hr
  have HRC : Hid (I.RdR w qc rl) := hrc
  have HRA : Hid (Rd w (some ad) ce) := hra
  have HL : Hid (st.length = n) := hl
  have HLC : Hid (rl.length = nc) := hlc
  have HLA : Hid (ce.length = m) := hla
  have HQS : Hid (qs = none → n = 0 ∧ cp = 0) := hqs
  obtain ⟨b0, hB0⟩ := cpu_bool (j : Int) st
  have HB0 : Hid (b0 = true ↔ CpuR (j : Int) st) := hB0
  obtain ⟨b1, hB1⟩ := I.code_bool rl
  have HB1 : Hid (b1 = true ↔ I.CodeR rl) := hB1
  clear hr hrc hra hl hlc hla hqs hB0 hB1
  go_enter Try.func28, Try.ntmps28
  go_wp2_with fail
  refine (copyCS qs (j : Int) st n cp HL.out hn HQS.out _ (HR.out.keep HX0.out.bel (Nat.le_refl _))).mono ?_
  rintro e w1 ⟨g1, c1, rfl, hown1, hb1⟩
  have s0 := HX0.out.lt
  have s1 := hb1.size
  have hge1 := hown1.ge
  have HX1 : Hid (Six w (w1.alloc (.cells #[.int .i64 (j : Int), .slice (some ⟨g1, 0, none⟩) n c1] 55)) (j : Int) (.slice qs n cp) (.slice (some ad) m ca) f s) := (HX0.out.on hb1).on (al1_b _ _)
  have HS1 : Hid ((w1.alloc (.cells #[.int .i64 (j : Int), .slice (some ⟨g1, 0, none⟩) n c1] 55)).heap[w1.heap.size]? = some (.cells #[.int .i64 (j : Int), .slice (some ⟨g1, 0, none⟩) n c1] 55)) := heap_new w1 _
  have HO1 : Hid (OwnN (w1.alloc (.cells #[.int .i64 (j : Int), .slice (some ⟨g1, 0, none⟩) n c1] 55)) w.heap.size g1 n c1 st) := (hown1.mono (by omega)).alloc _
  have HK13 : Hid (w.heap.size + 6 ≤ w1.heap.size) := by show _ ≤ _; omega
  have HG1 : Hid (w.heap.size + 6 ≤ g1) := by show _ ≤ _; omega
  clear hown1 hb1 HX0 hge1 s0 s1
  have kx := row2_cells HX1.out.1
  go_wp2_with fail
  clear kx
  refine (cpuokS qs (j : Int) st n cp b0 HL.out (by omega) HB0.out _ (HR.out.keep HX1.out.bel (Nat.le_refl _))).mono ?_
  rintro e w2 ⟨rfl, hb2⟩
  have HX2 : Hid (Six w w2 (j : Int) (.slice qs n cp) (.slice (some ad) m ca) f s) := HX1.out.on hb2
  have HS2 : Hid (w2.heap[w1.heap.size]? = _) := row_on HS1.out hb2
  have HO2 : Hid (OwnN w2 w.heap.size g1 n c1 st) := HO1.out.on hb2
  clear hb2 HX1 HS1 HO1
  obtain rfl : b0 = true := HB0.out.2 HC.out
  obtain rfl : b1 = true := HB1.out.2 HK.out
  go_wp2_with fail
  refine (I.codeokS qc rl nc cc true HLC.out (by omega) ⟨fun _ => HK.out, fun _ => rfl⟩ _ (HRC.out.keep HX2.out.bel (Nat.le_refl _))).mono ?_
  rintro e w3 ⟨rfl, rfl⟩
  have hjr : j < rl.length := by have := HLC.out; omega
  obtain ⟨gc, offc, hac, hcc⟩ := (HRC.out.keep HX2.out.bel (Nat.le_refl _)) (by omega)
  subst hac
  have hcj := hcc j hjr
  have hxx : rl[j] = (op, arg) := by have := HI.out; rw [List.getElem?_eq_getElem hjr] at this; exact Option.some.inj this
  rw [hxx] at hcj
  have hcl : gc < w3.heap.size := World.block_lt_of_cell? w3 ⟨gc, offc + j * 2, none⟩ hcj.1
  clear hcc hxx hjr
  have kx := row2_cells HX2.out.1
  have HX4 : Hid (Six w (w3.alloc (.cells #[.int .i64 op, .int .i64 arg] 51)) (j : Int) (.slice qs n cp) (.slice (some ad) m ca) f s) := HX2.out.on (al1_b _ _)
  have HS4 : Hid ((w3.alloc (.cells #[.int .i64 op, .int .i64 arg] 51)).heap[w1.heap.size]? = _) := row_al HS2.out
  have HO4 : Hid (OwnN (w3.alloc (.cells #[.int .i64 op, .int .i64 arg] 51)) w.heap.size g1 n c1 st) := HO2.out.alloc _
  have HI4 : Hid ((w3.alloc (.cells #[.int .i64 op, .int .i64 arg] 51)).heap[w3.heap.size]? = some (.cells #[.int .i64 op, .int .i64 arg] 51)) := heap_new w3 _
  have HK14 : Hid (w1.heap.size < w3.heap.size ∧ g1 < w3.heap.size) := ⟨row_lt HS2.out, HO2.out.lt⟩
  clear HX2 HS2 HO2
  go_wp2_with fail
  generalize hW4 : w3.alloc (.cells #[.int .i64 op, .int .i64 arg] 51) = W4 at *
  clear hW4
  obtain ⟨k13, hk13⟩ : ∃ k, w1.heap.size = k := ⟨_, rfl⟩
  rw [hk13] at HS4 HK13 ⊢
  have HX := HX4
  have HSm := HS4
  have HOm := HO4
  clear hk13
  have k3 : w.heap.size + 3 ≤ w.heap.size + 1 + 1 + 1 := by omega
  have k4 : w.heap.size + 3 ≤ w.heap.size + 1 + 1 + 1 + 1 := by omega
  have k5 : w.heap.size + 3 ≤ w.heap.size + 1 + 1 + 1 + 1 + 1 := by omega
  have n3 : k13 ≠ w.heap.size + 1 + 1 + 1 := by have := HK13.out; omega
  have n4 : k13 ≠ w.heap.size + 1 + 1 + 1 + 1 := by have := HK13.out; omega
  have n5 : k13 ≠ w.heap.size + 1 + 1 + 1 + 1 + 1 := by have := HK13.out; omega
  have HQ : Hid (W4.drew.cell? ⟨k13, 0, none⟩ = some (.int .i64 (j : Int)) ∧ W4.drew.cell? ⟨k13, 1, none⟩ = some (.slice (some ⟨g1, 0, none⟩) n c1) ∧ W4.drew.cell? ⟨w.heap.size + 1, 0, none⟩ = some (.slice (some ad) m ca) ∧ Below w.heap.size w W4.drew) := ⟨(row2_cells HSm.out).1, (row2_cells HSm.out).2.1, (row1_cells HX.out.2.1).1, HX.out.bel.drew⟩
  have hltX := HX.out.lt
  go_region_held3 (fun w' => w'.cell? ⟨k13, 0, none⟩ = some (.int .i64 (j : Int)) ∧ w'.cell? ⟨k13, 1, none⟩ = some (.slice (some ⟨g1, 0, none⟩) n c1) ∧ w'.cell? ⟨w.heap.size + 1, 0, none⟩ = some (.slice (some ad) m ca) ∧ Below w.heap.size w w') (first | (with_reducible exact HQ.out) | (with_reducible exact HQz.out) | (with_reducible exact t3_set k3 n3 (t3_set k3 n3 (by assumption))) | (with_reducible exact t3_set k4 n4 (by assumption)) | (with_reducible exact t3_set k5 n5 (t3_set k5 n5 (t3_set k5 n5 (t3_set k5 n5 (by assumption))))) | (with_reducible exact t3_on (by assumption) (by assumption))) (first | (go_at_call 54; refine (copySN (some ad) ce m ca HLA.out hm (by simp) _ ?_).mono ?_; (with_reducible exact HRA.out.keep (t3_bel (by assumption)) (Nat.le_refl _)); rintro e wB ⟨gB, cB, rfl, hownB, hbB⟩; have HXB : Hid (Six w wB (j : Int) (.slice qs n cp) (.slice (some ad) m ca) f s) := HX.out.on (undrew hbB); have kr := HXB.out.outs; have HOB : Hid (OwnN wB w.heap.size g1 n c1 st) := HOm.out.on (undrew hbB); have HQz : Hid (_ ∧ _ ∧ _ ∧ _) := hid (by with_reducible exact t3_on hbB (by assumption))))
  have hgb1 : W4.heap.size + 2 ≤ gB := hownB.ge
  have hg1l : g1 < W4.heap.size := HOm.out.lt
  have hg16 : w.heap.size + 6 ≤ g1 := HG1.out
  have HO2 : Hid (OwnN wB w.heap.size gB m cB ce) := hownB.mono (by show w.heap.size ≤ W4.heap.size + 2; omega)
  have HBW : Hid (Below w.heap.size w wB) := HXB.out.bel
  rename_i HH
  clear HH hownB hbB HQz HQ
  go_wp2
  refine bodyPost_ret (v := .tuple #[.agg #[.int .i64 (j : Int), .slice (some ⟨g1, 0, none⟩) n c1], .agg #[.slice (some ⟨gB, 0, none⟩) m cB], .agg #[.int .i64 0, .int .i64 0, .int .i64 0, .int .i64 1]]) (by simp [results, Try.results28, go_sem, kr]) rfl ?_
  refine ⟨g1, c1, gB, cB, rfl, ?_, ?_, ?_, ?_⟩
  · exact HOB.out.set7 (by omega) (by omega) (by omega)
  · exact HO2.out.set7 (by omega) (by omega) (by omega)
  · omega
  · exact below_set7 HBW.out (by omega) (by omega) (by omega)

set_option maxRecDepth 100000 in
set_option maxHeartbeats 3000000 in
theorem specUnder (qs : Option Addr) (pc : Int) (st : List Int) (n cp : Nat) (qc : Option Addr) (rl : List (Int × Int)) (nc cc : Nat) (ad : Addr) (ce : List Int) (m ca : Nat) (f s t : Int) (hl : st.length = n) (hn : n ≤ 1048576) (hqs : qs = none → n = 0 ∧ cp = 0) (hlc : rl.length = nc) (hnc : nc ≤ 1048576) (hla : ce.length = m) (hm : m ≤ 1048576) (j : Nat) (op arg : Int) (hc : CpuR pc st) (hk : I.CodeR rl) (hj : pc = j) (hjl : j < nc) (hx : rl[j]? = some (op, arg)) (o : Nat) (hoo : op = o) (ho : o < 18) (hlow : (n : Int) < needL.getD o 0) (w : World) (hr : Rd w qs st) (hrc : I.RdR w qc rl) (hra : Rd w (some ad) ce) :
    Calls Try.prog 28 #[.agg #[.int .i64 pc, .slice qs n cp], .slice qc nc cc, .agg #[.slice (some ad) m ca], .agg #[.int .i64 f, .int .i64 s], .int .i64 t] w (StepPost w m (trapR pc st ce 5) n) := by
  subst hoo
  have HC : Hid (CpuR pc st) := hc
  have HK : Hid (I.CodeR rl) := hk
  have HI : Hid (rl[j]? = some ((o : Int), arg)) := hx
  have hp0 : 0 ≤ pc ∧ pc < 60 := by have h_ := hk.1; omega
  clear hc hk hx
  subst hj
  obtain ⟨T, hT⟩ : ∃ T, needL.getD o 0 = T := ⟨_, rfl⟩
  obtain ⟨U, hU⟩ : ∃ U, putL.getD o 0 = U := ⟨_, rfl⟩
  rw [hT] at hlow
  have HT : Hid (needL.getD o 0 = T ∧ putL.getD o 0 = U) := ⟨hT, hU⟩
  clear hT hU
  have HX0 : Hid (Six w _ (j : Int) (.slice qs n cp) (.slice (some ad) m ca) f s) := six_is w (j : Int) (.slice qs n cp) (.slice (some ad) m ca) f s
  have HR : Hid (Rd w qs st) := hr
  have HRC : Hid (I.RdR w qc rl) := hrc
  have HRA : Hid (Rd w (some ad) ce) := hra
  have HL : Hid (st.length = n) := hl
  have HLC : Hid (rl.length = nc) := hlc
  have HLA : Hid (ce.length = m) := hla
  have HQS : Hid (qs = none → n = 0 ∧ cp = 0) := hqs
  obtain ⟨b0, hB0⟩ := cpu_bool (j : Int) st
  have HB0 : Hid (b0 = true ↔ CpuR (j : Int) st) := hB0
  obtain ⟨b1, hB1⟩ := I.code_bool rl
  have HB1 : Hid (b1 = true ↔ I.CodeR rl) := hB1
  clear hr hrc hra hl hlc hla hqs hB0 hB1
  go_enter Try.func28, Try.ntmps28
  go_wp2_with fail
  refine (copyCS qs (j : Int) st n cp HL.out hn HQS.out _ (HR.out.keep HX0.out.bel (Nat.le_refl _))).mono ?_
  rintro e w1 ⟨g1, c1, rfl, hown1, hb1⟩
  have s0 := HX0.out.lt
  have s1 := hb1.size
  have hge1 := hown1.ge
  have HX1 : Hid (Six w (w1.alloc (.cells #[.int .i64 (j : Int), .slice (some ⟨g1, 0, none⟩) n c1] 55)) (j : Int) (.slice qs n cp) (.slice (some ad) m ca) f s) := (HX0.out.on hb1).on (al1_b _ _)
  have HS1 : Hid ((w1.alloc (.cells #[.int .i64 (j : Int), .slice (some ⟨g1, 0, none⟩) n c1] 55)).heap[w1.heap.size]? = some (.cells #[.int .i64 (j : Int), .slice (some ⟨g1, 0, none⟩) n c1] 55)) := heap_new w1 _
  have HO1 : Hid (OwnN (w1.alloc (.cells #[.int .i64 (j : Int), .slice (some ⟨g1, 0, none⟩) n c1] 55)) w.heap.size g1 n c1 st) := (hown1.mono (by omega)).alloc _
  have HK13 : Hid (w.heap.size + 6 ≤ w1.heap.size) := by show _ ≤ _; omega
  have HG1 : Hid (w.heap.size + 6 ≤ g1) := by show _ ≤ _; omega
  clear hown1 hb1 HX0 hge1 s0 s1
  have kx := row2_cells HX1.out.1
  go_wp2_with fail
  clear kx
  refine (cpuokS qs (j : Int) st n cp b0 HL.out (by omega) HB0.out _ (HR.out.keep HX1.out.bel (Nat.le_refl _))).mono ?_
  rintro e w2 ⟨rfl, hb2⟩
  have HX2 : Hid (Six w w2 (j : Int) (.slice qs n cp) (.slice (some ad) m ca) f s) := HX1.out.on hb2
  have HS2 : Hid (w2.heap[w1.heap.size]? = _) := row_on HS1.out hb2
  have HO2 : Hid (OwnN w2 w.heap.size g1 n c1 st) := HO1.out.on hb2
  clear hb2 HX1 HS1 HO1
  obtain rfl : b0 = true := HB0.out.2 HC.out
  obtain rfl : b1 = true := HB1.out.2 HK.out
  go_wp2_with fail
  refine (I.codeokS qc rl nc cc true HLC.out (by omega) ⟨fun _ => HK.out, fun _ => rfl⟩ _ (HRC.out.keep HX2.out.bel (Nat.le_refl _))).mono ?_
  rintro e w3 ⟨rfl, rfl⟩
  have hjr : j < rl.length := by have := HLC.out; omega
  obtain ⟨gc, offc, hac, hcc⟩ := (HRC.out.keep HX2.out.bel (Nat.le_refl _)) (by omega)
  subst hac
  have hcj := hcc j hjr
  have hxx : rl[j] = ((o : Int), arg) := by have := HI.out; rw [List.getElem?_eq_getElem hjr] at this; exact Option.some.inj this
  rw [hxx] at hcj
  have hcl : gc < w3.heap.size := World.block_lt_of_cell? w3 ⟨gc, offc + j * 2, none⟩ hcj.1
  clear hcc hxx hjr
  have kx := row2_cells HX2.out.1
  have HX4 : Hid (Six w (w3.alloc (.cells #[.int .i64 (o : Int), .int .i64 arg] 51)) (j : Int) (.slice qs n cp) (.slice (some ad) m ca) f s) := HX2.out.on (al1_b _ _)
  have HS4 : Hid ((w3.alloc (.cells #[.int .i64 (o : Int), .int .i64 arg] 51)).heap[w1.heap.size]? = _) := row_al HS2.out
  have HO4 : Hid (OwnN (w3.alloc (.cells #[.int .i64 (o : Int), .int .i64 arg] 51)) w.heap.size g1 n c1 st) := HO2.out.alloc _
  have HI4 : Hid ((w3.alloc (.cells #[.int .i64 (o : Int), .int .i64 arg] 51)).heap[w3.heap.size]? = some (.cells #[.int .i64 (o : Int), .int .i64 arg] 51)) := heap_new w3 _
  have HK14 : Hid (w1.heap.size < w3.heap.size ∧ g1 < w3.heap.size) := ⟨row_lt HS2.out, HO2.out.lt⟩
  clear HX2 HS2 HO2
  have kx4 := row2_cells HI4.out
  go_wp2_with fail
  clear kx kx4
  refine (needS o ho _).mono ?_
  rintro e w5 ⟨rfl, hb5⟩
  rw [HT.out.1, HT.out.2]
  have HX := HX4.out.on hb5
  have HX5 : Hid (Six w w5 (j : Int) (.slice qs n cp) (.slice (some ad) m ca) f s) := HX
  have HS5 : Hid (w5.heap[w1.heap.size]? = _) := row_on HS4.out hb5
  have HO5 : Hid (OwnN w5 w.heap.size g1 n c1 st) := HO4.out.on hb5
  clear hb5 HX HX4 HS4 HO4
  have kx := row2_cells HX5.out.1
  go_wp2_with fail
  clear kx
  obtain ⟨k13, hk13⟩ : ∃ k, w1.heap.size = k := ⟨_, rfl⟩
  rw [hk13] at HS5 HK13 ⊢
  have HX := HX5
  have HSm := HS5
  have HOm := HO5
  clear hk13
  have k3 : w.heap.size + 3 ≤ w.heap.size + 1 + 1 + 1 := by omega
  have k4 : w.heap.size + 3 ≤ w.heap.size + 1 + 1 + 1 + 1 := by omega
  have k5 : w.heap.size + 3 ≤ w.heap.size + 1 + 1 + 1 + 1 + 1 := by omega
  have n3 : k13 ≠ w.heap.size + 1 + 1 + 1 := by have := HK13.out; omega
  have n4 : k13 ≠ w.heap.size + 1 + 1 + 1 + 1 := by have := HK13.out; omega
  have n5 : k13 ≠ w.heap.size + 1 + 1 + 1 + 1 + 1 := by have := HK13.out; omega
  have HQ : Hid (w5.drew.cell? ⟨k13, 0, none⟩ = some (.int .i64 (j : Int)) ∧ w5.drew.cell? ⟨k13, 1, none⟩ = some (.slice (some ⟨g1, 0, none⟩) n c1) ∧ w5.drew.cell? ⟨w.heap.size + 1, 0, none⟩ = some (.slice (some ad) m ca) ∧ Below w.heap.size w w5.drew) := ⟨(row2_cells HSm.out).1, (row2_cells HSm.out).2.1, (row1_cells HX.out.2.1).1, HX.out.bel.drew⟩
  have hltX := HX.out.lt
  go_region_held3 (fun w' => w'.cell? ⟨k13, 0, none⟩ = some (.int .i64 (j : Int)) ∧ w'.cell? ⟨k13, 1, none⟩ = some (.slice (some ⟨g1, 0, none⟩) n c1) ∧ w'.cell? ⟨w.heap.size + 1, 0, none⟩ = some (.slice (some ad) m ca) ∧ Below w.heap.size w w') (first | (with_reducible exact HQ.out) | (with_reducible exact HQz.out) | (with_reducible exact t3_set k3 n3 (t3_set k3 n3 (by assumption))) | (with_reducible exact t3_set k4 n4 (by assumption)) | (with_reducible exact t3_set k5 n5 (t3_set k5 n5 (t3_set k5 n5 (t3_set k5 n5 (by assumption))))) | (with_reducible exact t3_on (by assumption) (by assumption))) (first | (go_at_call 54; refine (copySN (some ad) ce m ca HLA.out hm (by simp) _ ?_).mono ?_; (with_reducible exact HRA.out.keep (t3_bel (by assumption)) (Nat.le_refl _)); rintro e wB ⟨gB, cB, rfl, hownB, hbB⟩; have HXB : Hid (Six w wB (j : Int) (.slice qs n cp) (.slice (some ad) m ca) f s) := HX.out.on (undrew hbB); have kr := HXB.out.outs; have HOB : Hid (OwnN wB w.heap.size g1 n c1 st) := HOm.out.on (undrew hbB); have HQz : Hid (_ ∧ _ ∧ _ ∧ _) := hid (by with_reducible exact t3_on hbB (by assumption))))
  have hgb1 : w5.heap.size + 2 ≤ gB := hownB.ge
  have hg1l : g1 < w5.heap.size := HOm.out.lt
  have hg16 : w.heap.size + 6 ≤ g1 := HG1.out
  have HO2 : Hid (OwnN wB w.heap.size gB m cB ce) := hownB.mono (by show w.heap.size ≤ w5.heap.size + 2; omega)
  have HBW : Hid (Below w.heap.size w wB) := HXB.out.bel
  rename_i HH
  clear HH hownB hbB HQz HQ
  go_wp2
  refine bodyPost_ret (v := .tuple #[.agg #[.int .i64 (j : Int), .slice (some ⟨g1, 0, none⟩) n c1], .agg #[.slice (some ⟨gB, 0, none⟩) m cB], .agg #[.int .i64 0, .int .i64 0, .int .i64 0, .int .i64 5]]) (by simp [results, Try.results28, go_sem, kr]) rfl ?_
  refine ⟨g1, c1, gB, cB, rfl, ?_, ?_, ?_, ?_⟩
  · exact HOB.out.set7 (by omega) (by omega) (by omega)
  · exact HO2.out.set7 (by omega) (by omega) (by omega)
  · omega
  · exact below_set7 HBW.out (by omega) (by omega) (by omega)
end Go.Proofs.Ythnocibkgpofnaa
