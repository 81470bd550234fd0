/-
  The walk through FnExactStepCpu.
-/
import Derived.Test.YtbacmkibilhkgaaSpecS
import Derived.Test.YtbacmkibilhkgaaLawA
import Derived.Test.YtbacmkibilhkgaaLawB
import Derived.Test.YtbacmkibilhkgaaOpen6
namespace Go.Proofs.Ytbacmkibilhkgaa.fnExactStepCpu
open Go.RowKit Go.PlainAid
set_option linter.unusedVariables false
set_option maxRecDepth 100000 in
set_option maxHeartbeats 8000000 in
theorem walk_in (pc : Int) (a : Option Addr) (st : List Int) (n cap : Nat) (qc : Option Addr) (rl : List (Int × Int)) (nc cc : Nat) (qa : Option Addr) (ce : List Int) (m ca : Nat) (f s t : Int) (hl : st.length = n) (hlc : rl.length = nc) (hla : ce.length = m) (hsum : n + nc + m ≤ 1048576) (w : World) (hr : Rd w a st) (hrc : I.RdR w qc rl) (hra : Rd w qa ce) :
    Calls Try.prog 4 #[.agg #[.int .i64 pc, .slice a n cap], .slice qc nc cc, .agg #[.slice qa m ca], .agg #[.int .i64 f, .int .i64 s], .int .i64 t] w fun e w' => e = .returned (.bool true) ∧ Below w.heap.size w w' := by
  have HL : Hid (st.length = n) := hl
  have HLC : Hid (rl.length = nc) := hlc
  have HLA : Hid (ce.length = m) := hla
  have HR : Hid (Rd w a st) := hr
  have HRC : Hid (I.RdR w qc rl) := hrc
  have HRA : Hid (Rd w qa ce) := hra
  obtain ⟨b, hB⟩ := step_bool pc st rl nc
  have HB : Hid (b = true ↔ (CpuR pc st ∧ I.CodeR rl ∧ pc < (nc : Int))) := hB
  have hn : n ≤ 1048576 := by omega
  have hnc : nc ≤ 1048576 := by omega
  have hm : m ≤ 1048576 := by omega
  have hmn : n ≤ 9223372036854775807 := by omega
  have hmc : nc ≤ 9223372036854775807 := by omega
  have hma : m ≤ 9223372036854775807 := by omega
  have HLE1 : Hid (leftN 1048576 n = 1048576 - n) := leftN_yes (by omega)
  have HLE2 : Hid (leftN (1048576 - (n : Int)) nc = 1048576 - (n : Int) - nc) := leftN_yes (by omega)
  have HLE3 : Hid (leftN (1048576 - (n : Int) - (nc : Int)) m = 1048576 - (n : Int) - (nc : Int) - m) := leftN_yes (by omega)
  obtain ⟨R, hRR⟩ : ∃ R : Res, stepR b pc st rl ce f s t = R := ⟨_, rfl⟩
  obtain ⟨N, hNN⟩ : ∃ N : Nat, R.st.length = N := ⟨_, rfl⟩
  have HRR : Hid (stepR b pc st rl ce f s t = R) := hRR
  have HNN : Hid (R.st.length = N) := hNN
  have hsz := stepR_size (f := f) (s := s) (t := t) hl hla hn hB hRR
  have HN1 : Hid (N ≤ 1048576) := by rw [← hNN]; exact hsz.1
  have hN1 : N ≤ 1048576 := HN1.out
  have HCE : Hid (R.ce.length = m) := hsz.2
  clear hl hlc hla hr hrc hra hB hRR hNN hsz
  have FW_1 : Hid (Below w.heap.size w (w)) := Below.refl _ _
  have N_2 : Hid ((w).heap.size ≤ ((((w.alloc (.cells #[.int .i64 pc, .slice a n cap] 24)).alloc (.cells #[.slice qa m ca] 33)).alloc (.cells #[.int .i64 f, .int .i64 s] 35))).heap.size) := (al3_b w (.cells #[.int .i64 pc, .slice a n cap] 24) (.cells #[.slice qa m ca] 33) (.cells #[.int .i64 f, .int .i64 s] 35)).size
  have FW_3 : Hid (Below w.heap.size w ((((w.alloc (.cells #[.int .i64 pc, .slice a n cap] 24)).alloc (.cells #[.slice qa m ca] 33)).alloc (.cells #[.int .i64 f, .int .i64 s] 35)))) := bel_on (Nat.le_refl _) FW_1.out (al3_b w (.cells #[.int .i64 pc, .slice a n cap] 24) (.cells #[.slice qa m ca] 33) (.cells #[.int .i64 f, .int .i64 s] 35))
  clear FW_1
  have N_4 : Hid ((((w.alloc (.cells #[.int .i64 pc, .slice a n cap] 24)).alloc (.cells #[.slice qa m ca] 33)).alloc (.cells #[.int .i64 f, .int .i64 s] 35)).heap.size = w.heap.size + 3) := al3_s w (.cells #[.int .i64 pc, .slice a n cap] 24) (.cells #[.slice qa m ca] 33) (.cells #[.int .i64 f, .int .i64 s] 35)
  have FC_5 : Hid (((((w.alloc (.cells #[.int .i64 pc, .slice a n cap] 24)).alloc (.cells #[.slice qa m ca] 33)).alloc (.cells #[.int .i64 f, .int .i64 s] 35))).heap[w.heap.size]? = some (.cells #[.int .i64 pc, .slice a n cap] 24)) := al3_1 w (.cells #[.int .i64 pc, .slice a n cap] 24) (.cells #[.slice qa m ca] 33) (.cells #[.int .i64 f, .int .i64 s] 35)
  have FR_6 : Hid (((((w.alloc (.cells #[.int .i64 pc, .slice a n cap] 24)).alloc (.cells #[.slice qa m ca] 33)).alloc (.cells #[.int .i64 f, .int .i64 s] 35))).heap[w.heap.size + 1]? = some (.cells #[.slice qa m ca] 33)) := al3_2 w (.cells #[.int .i64 pc, .slice a n cap] 24) (.cells #[.slice qa m ca] 33) (.cells #[.int .i64 f, .int .i64 s] 35)
  have FG_7 : Hid (((((w.alloc (.cells #[.int .i64 pc, .slice a n cap] 24)).alloc (.cells #[.slice qa m ca] 33)).alloc (.cells #[.int .i64 f, .int .i64 s] 35))).heap[w.heap.size + 1 + 1]? = some (.cells #[.int .i64 f, .int .i64 s] 35)) := al3_3 w (.cells #[.int .i64 pc, .slice a n cap] 24) (.cells #[.slice qa m ca] 33) (.cells #[.int .i64 f, .int .i64 s] 35)
  go_enter Try.func4, Try.ntmps4
  go_wp2_with fail
  refine (szCL a pc n cap 1048576 hmn (by omega) (by omega) _).mono ?_
  rintro e w1 ⟨rfl, hb1⟩
  rw [HLE1.out]
  have N_8 : Hid (((((w.alloc (.cells #[.int .i64 pc, .slice a n cap] 24)).alloc (.cells #[.slice qa m ca] 33)).alloc (.cells #[.int .i64 f, .int .i64 s] 35))).heap.size ≤ (w1).heap.size) := (hb1).size
  have FW_9 : Hid (Below w.heap.size w (w1)) := bel_on (Nat.le_refl _) FW_3.out (hb1)
  have FC_10 : Hid ((w1).heap[w.heap.size]? = some (.cells #[.int .i64 pc, .slice a n cap] 24)) := row_on FC_5.out (hb1)
  have FR_11 : Hid ((w1).heap[w.heap.size + 1]? = some (.cells #[.slice qa m ca] 33)) := row_on FR_6.out (hb1)
  have FG_12 : Hid ((w1).heap[w.heap.size + 1 + 1]? = some (.cells #[.int .i64 f, .int .i64 s] 35)) := row_on FG_7.out (hb1)
  clear FW_3 FC_5 FR_6 FG_7 hb1
  go_wp2_with fail
  refine (szInL qc nc cc (1048576 - (n : Int)) hmc (by omega) (by omega) _).mono ?_
  rintro e wx ⟨rfl, hwx⟩
  have hwy := hwx.symm
  subst hwy
  clear hwx
  rw [HLE2.out]
  have kR := row1_cells FR_11.out
  go_wp2_with fail
  clear kR
  refine (szAL qa m ca (1048576 - (n : Int) - (nc : Int)) hma (by omega) (by omega) _).mono ?_
  rintro e w2 ⟨rfl, hb2⟩
  rw [HLE3.out]
  have N_13 : Hid ((w1).heap.size ≤ (w2).heap.size) := (hb2).size
  have FW_14 : Hid (Below w.heap.size w (w2)) := bel_on (Nat.le_refl _) FW_9.out (hb2)
  have FC_15 : Hid ((w2).heap[w.heap.size]? = some (.cells #[.int .i64 pc, .slice a n cap] 24)) := row_on FC_10.out (hb2)
  have FR_16 : Hid ((w2).heap[w.heap.size + 1]? = some (.cells #[.slice qa m ca] 33)) := row_on FR_11.out (hb2)
  have FG_17 : Hid ((w2).heap[w.heap.size + 1 + 1]? = some (.cells #[.int .i64 f, .int .i64 s] 35)) := row_on FG_12.out (hb2)
  clear FW_9 FC_10 FR_11 FG_12 hb2
  go_wp2_with fail
  have Q20 : Hid (w2.cell? ⟨w.heap.size, 0, none⟩ = some (.int .i64 pc)) := (row2_cells FC_15.out).1
  have Q21 : Hid (w2.cell? ⟨w.heap.size, 1, none⟩ = some (.slice a n cap)) := (row2_cells FC_15.out).2.1
  have Q22 : Hid (w2.cell? ⟨w.heap.size + 1, 0, none⟩ = some (.slice qa m ca)) := (row1_cells FR_16.out).1
  have Q23 : Hid (w2.cell? ⟨w.heap.size + 1 + 1, 0, none⟩ = some (.int .i64 f)) := (row2_cells FG_17.out).1
  have Q24 : Hid (w2.cell? ⟨w.heap.size + 1 + 1, 1, none⟩ = some (.int .i64 s)) := (row2_cells FG_17.out).2.1
  have HS2 : Hid (Rd w2 a st) := HR.out.keep FW_14.out (Nat.le_refl _)
  have HI2 : Hid (I.RdR w2 qc rl) := HRC.out.keep FW_14.out (Nat.le_refl _)
  have HA2 : Hid (Rd w2 qa ce) := HRA.out.keep FW_14.out (Nat.le_refl _)
  go_cut [12, 13, 14] (fun o1 o2 o3 wc => ∃ (b1 b2 b3 gs cs ga ca : Nat), o1 = .pointer (some ⟨b1, 0, none⟩) ∧ o2 = .pointer (some ⟨b2, 0, none⟩) ∧ o3 = .pointer (some ⟨b3, 0, none⟩) ∧ Hid (OutB w2 wc b1 b2 b3 gs cs ga ca m N R))
  case first =>
    refine wp_region_held_drew (S := fun w' => Below w2.heap.size w2 w') (by kernel_rfl) (Below.refl _ _).drew (fun hHeld => ?_)
    refine wpAnyH_take (i := 0) (v := ?_) rfl (by kernel_rfl) (by kernel_rfl) (by kernel_rfl) (fun _ _ _ h => h) (Or.inl ⟨by rfl, ?_⟩) (by assumption) ?_
    rotate_left
    · intro w hSw; (try dsimp only at hSw); have q0_ := cell_on Q20.out hSw; have q1_ := cell_on Q21.out hSw; have q2_ := cell_on Q22.out hSw; have q3_ := cell_on Q23.out hSw; have q4_ := cell_on Q24.out hSw; go_simp <;> with_reducible rfl
    simp only [Act.put, List.setIfInBounds_toArray, List.set_cons_zero, List.set_cons_succ, List.getElem_toArray, List.getElem_cons_zero]
    refine wpAnyH_take (i := 2) (v := ?_) rfl (by kernel_rfl) (by kernel_rfl) (by kernel_rfl) (fun _ _ _ h => h) (Or.inl ⟨by rfl, ?_⟩) (by assumption) ?_
    rotate_left
    · intro w hSw; (try dsimp only at hSw); have q0_ := cell_on Q20.out hSw; have q1_ := cell_on Q21.out hSw; have q2_ := cell_on Q22.out hSw; have q3_ := cell_on Q23.out hSw; have q4_ := cell_on Q24.out hSw; go_simp <;> with_reducible rfl
    simp only [Act.put, List.setIfInBounds_toArray, List.set_cons_zero, List.set_cons_succ, List.getElem_toArray, List.getElem_cons_zero, List.getElem_cons_succ]
    refine wpAnyH_take (i := 4) (v := ?_) rfl (by kernel_rfl) (by kernel_rfl) (by kernel_rfl) (fun _ _ _ h => h) (Or.inl ⟨by rfl, ?_⟩) (by assumption) ?_
    rotate_left
    · intro w hSw; (try dsimp only at hSw); have q0_ := cell_on Q20.out hSw; have q1_ := cell_on Q21.out hSw; have q2_ := cell_on Q22.out hSw; have q3_ := cell_on Q23.out hSw; have q4_ := cell_on Q24.out hSw; go_simp <;> with_reducible rfl
    simp only [Act.put, List.setIfInBounds_toArray, List.set_cons_zero, List.set_cons_succ, List.getElem_toArray, List.getElem_cons_zero, List.getElem_cons_succ]
    refine wpAnyH_take (i := 6) (v := ?_) rfl (by kernel_rfl) (by kernel_rfl) (by kernel_rfl) (fun _ _ _ h => h) (Or.inl ⟨by rfl, ?_⟩) (by assumption) ?_
    rotate_left
    · intro w hSw; (try dsimp only at hSw); have q0_ := cell_on Q20.out hSw; have q1_ := cell_on Q21.out hSw; have q2_ := cell_on Q22.out hSw; have q3_ := cell_on Q23.out hSw; have q4_ := cell_on Q24.out hSw; go_simp <;> with_reducible rfl
    simp only [Act.put, List.setIfInBounds_toArray, List.set_cons_zero, List.set_cons_succ, List.getElem_toArray, List.getElem_cons_zero, List.getElem_cons_succ]
    refine wpAnyH_take (i := 8) (v := ?_) rfl (by kernel_rfl) (by kernel_rfl) (by kernel_rfl) (fun _ _ _ h => h) (Or.inl ⟨by rfl, ?_⟩) (by assumption) ?_
    rotate_left
    · intro w hSw; (try dsimp only at hSw); have q0_ := cell_on Q20.out hSw; have q1_ := cell_on Q21.out hSw; have q2_ := cell_on Q22.out hSw; have q3_ := cell_on Q23.out hSw; have q4_ := cell_on Q24.out hSw; go_simp <;> with_reducible rfl
    simp only [Act.put, List.setIfInBounds_toArray, List.set_cons_zero, List.set_cons_succ, List.getElem_toArray, List.getElem_cons_zero, List.getElem_cons_succ]
    refine wpAnyH_named (fun a0 ha0 => ?_)
    have HA0 : Hid (a0 = _) := ha0
    clear ha0
    refine main_go (L := (fun x y z => #[true, false, true, false, true, false, true, false, true, false, false, false, false, false, x, y, z, false, false, false])) (St := (fun x y z a w => ∃ (vx vy vz : Value), a = (((a0.put (some 12) vx).put (some 13) vy).put (some 14) vz) ∧ VB w2 x vx w zCpu ∧ VB w2 y vy w zAr ∧ VB w2 z vz w zEf)) (K := 12) ?h (by kernel_rfl) (by decide) (by assumption) ⟨a0.tmps.getD 12 undef, a0.tmps.getD 13 undef, a0.tmps.getD 14 undef, (by simp only [put_self]), VB.no _ _ _ _, VB.no _ _ _ _, VB.no _ _ _ _⟩
    case h =>
      refine stage3 (i1 := 14) (i2 := 15) (i3 := 16) (c := 1) (fun x y z => #[true, false, true, false, true, false, true, false, true, false, false, false, false, false, x, y, z, false, false, false]) (fun x y z => #[true, true, true, false, true, false, true, false, true, false, false, false, false, false, x, y, z, false, false, false]) (fun x y z a w => ∃ (vx vy vz : Value), a = (((a0.put (some 12) vx).put (some 13) vy).put (some 14) vz) ∧ VB w2 x vx w zCpu ∧ VB w2 y vy w zAr ∧ VB w2 z vz w zEf) (fun x y z a w => ∃ (vx vy vz : Value) (gx : Nat), a = ((((a0.put (some 44) (.agg #[.int .i64 pc, .slice (some ⟨gx, 0, none⟩) n n])).put (some 12) vx).put (some 13) vy).put (some 14) vz) ∧ Hid (RowAt w gx st) ∧ VB w2 x vx w zCpu ∧ VB w2 y vy w zAr ∧ VB w2 z vz w zEf) 11 ?_ ?_ ?_ ?_ ?_ ?_ ?_ ?_ ?_ ?_ ?_
      · intro x y z i hi
        cases x <;> cases y <;> cases z
        · have e_ := mem_kernel (rs := [1, 14, 15, 16]) (by kernel_rfl) hi; (first | (simp at e_ ⊢; done) | (simp at e_ ⊢; omega))
        · have e_ := mem_kernel (rs := [1, 14, 15]) (by kernel_rfl) hi; (first | (simp at e_ ⊢; done) | (simp at e_ ⊢; omega))
        · have e_ := mem_kernel (rs := [1, 14, 16]) (by kernel_rfl) hi; (first | (simp at e_ ⊢; done) | (simp at e_ ⊢; omega))
        · have e_ := mem_kernel (rs := [1, 14]) (by kernel_rfl) hi; (first | (simp at e_ ⊢; done) | (simp at e_ ⊢; omega))
        · have e_ := mem_kernel (rs := [1, 15, 16]) (by kernel_rfl) hi; (first | (simp at e_ ⊢; done) | (simp at e_ ⊢; omega))
        · have e_ := mem_kernel (rs := [1, 15]) (by kernel_rfl) hi; (first | (simp at e_ ⊢; done) | (simp at e_ ⊢; omega))
        · have e_ := mem_kernel (rs := [1, 16]) (by kernel_rfl) hi; (first | (simp at e_ ⊢; done) | (simp at e_ ⊢; omega))
        · have e_ := mem_kernel (rs := [1]) (by kernel_rfl) hi; (first | (simp at e_ ⊢; done) | (simp at e_ ⊢; omega))
      · intro x y z
        cases x <;> cases y <;> cases z
        · exact ne_kernel (rs := [1, 14, 15, 16]) (by kernel_rfl) (by simp)
        · exact ne_kernel (rs := [1, 14, 15]) (by kernel_rfl) (by simp)
        · exact ne_kernel (rs := [1, 14, 16]) (by kernel_rfl) (by simp)
        · exact ne_kernel (rs := [1, 14]) (by kernel_rfl) (by simp)
        · exact ne_kernel (rs := [1, 15, 16]) (by kernel_rfl) (by simp)
        · exact ne_kernel (rs := [1, 15]) (by kernel_rfl) (by simp)
        · exact ne_kernel (rs := [1, 16]) (by kernel_rfl) (by simp)
        · exact ne_kernel (rs := [1]) (by kernel_rfl) (by simp)
      · intro x y; cases x <;> cases y <;> kernel_rfl
      · intro x y; cases x <;> cases y <;> kernel_rfl
      · intro x y; cases x <;> cases y <;> kernel_rfl
      · intro x y z; cases x <;> cases y <;> cases z <;> kernel_rfl
      · rintro y z a w hSw ⟨vx, vy, vz, rfl, bx, by_, bz⟩
        refine wpOp_step (i := 14) rfl (fun K hK => ?_)
        have HK : Shut _ := hK
        clear hK
        rw [HA0.out]
        simp only [Act.put, List.setIfInBounds_toArray, List.set_cons_zero, List.set_cons_succ]
        go_simp
        exact HK.out _ _ ⟨bel_on (Nat.le_refl _) hSw (al1_b w zCpu), _, vy, vz, (by rw [HA0.out]; simp only [Act.put, List.setIfInBounds_toArray, List.set_cons_zero, List.set_cons_succ]), VB.new hSw, by_.on (al1_b w zCpu), bz.on (al1_b w zCpu)⟩
      · rintro x z a w hSw ⟨vx, vy, vz, rfl, bx, by_, bz⟩
        refine wpOp_step (i := 15) rfl (fun K hK => ?_)
        have HK : Shut _ := hK
        clear hK
        rw [HA0.out]
        simp only [Act.put, List.setIfInBounds_toArray, List.set_cons_zero, List.set_cons_succ]
        go_simp
        exact HK.out _ _ ⟨bel_on (Nat.le_refl _) hSw (al1_b w zAr), vx, _, vz, (by rw [HA0.out]; simp only [Act.put, List.setIfInBounds_toArray, List.set_cons_zero, List.set_cons_succ]), bx.on (al1_b w zAr), VB.new hSw, bz.on (al1_b w zAr)⟩
      · rintro x y a w hSw ⟨vx, vy, vz, rfl, bx, by_, bz⟩
        refine wpOp_step (i := 16) rfl (fun K hK => ?_)
        have HK : Shut _ := hK
        clear hK
        rw [HA0.out]
        simp only [Act.put, List.setIfInBounds_toArray, List.set_cons_zero, List.set_cons_succ]
        go_simp
        exact HK.out _ _ ⟨bel_on (Nat.le_refl _) hSw (al1_b w zEf), vx, vy, _, (by rw [HA0.out]; simp only [Act.put, List.setIfInBounds_toArray, List.set_cons_zero, List.set_cons_succ]), bx.on (al1_b w zEf), by_.on (al1_b w zEf), VB.new hSw⟩
      · rintro x y z a w hSw ⟨vx, vy, vz, rfl, bx, by_, bz⟩
        refine wpOp_step (i := 1) rfl (fun K hK => ?_)
        have HK : Shut _ := hK
        clear hK
        rw [HA0.out]
        simp only [Act.put, List.setIfInBounds_toArray, List.set_cons_zero, List.set_cons_succ]
        go_simp
        go_at_call 13
        refine (toC a pc st n cap HL.out hn _ (HS2.out.on hSw)).mono ?_
        rintro e w9 ⟨gx, rfl, _, hrow9, hb9⟩
        go_wp2_with fail
        exact HK.out _ _ ⟨bel_on (Nat.le_refl _) hSw (hb9), vx, vy, vz, gx, (by rw [HA0.out]; simp only [Act.put, List.setIfInBounds_toArray, List.set_cons_zero, List.set_cons_succ]), hrow9, bx.on (hb9), by_.on (hb9), bz.on (hb9)⟩
      refine stage3 (i1 := 14) (i2 := 15) (i3 := 16) (c := 3) (fun x y z => #[true, true, true, false, true, false, true, false, true, false, false, false, false, false, x, y, z, false, false, false]) (fun x y z => #[true, true, true, true, true, false, true, false, true, false, false, false, false, false, x, y, z, false, false, false]) (fun x y z a w => ∃ (vx vy vz : Value) (gx : Nat), a = ((((a0.put (some 44) (.agg #[.int .i64 pc, .slice (some ⟨gx, 0, none⟩) n n])).put (some 12) vx).put (some 13) vy).put (some 14) vz) ∧ Hid (RowAt w gx st) ∧ VB w2 x vx w zCpu ∧ VB w2 y vy w zAr ∧ VB w2 z vz w zEf) (fun x y z a w => ∃ (vx vy vz : Value) (gx : Nat) (kq : Nat), a = (((((a0.put (some 44) (.agg #[.int .i64 pc, .slice (some ⟨gx, 0, none⟩) n n])).put (some 46) (.slice (some ⟨kq, 0, none⟩) nc nc)).put (some 12) vx).put (some 13) vy).put (some 14) vz) ∧ Hid (RowAt w gx st) ∧ Hid (I.RowR w kq rl) ∧ VB w2 x vx w zCpu ∧ VB w2 y vy w zAr ∧ VB w2 z vz w zEf) 10 ?_ ?_ ?_ ?_ ?_ ?_ ?_ ?_ ?_ ?_ ?_
      · intro x y z i hi
        cases x <;> cases y <;> cases z
        · have e_ := mem_kernel (rs := [3, 14, 15, 16]) (by kernel_rfl) hi; (first | (simp at e_ ⊢; done) | (simp at e_ ⊢; omega))
        · have e_ := mem_kernel (rs := [3, 14, 15]) (by kernel_rfl) hi; (first | (simp at e_ ⊢; done) | (simp at e_ ⊢; omega))
        · have e_ := mem_kernel (rs := [3, 14, 16]) (by kernel_rfl) hi; (first | (simp at e_ ⊢; done) | (simp at e_ ⊢; omega))
        · have e_ := mem_kernel (rs := [3, 14]) (by kernel_rfl) hi; (first | (simp at e_ ⊢; done) | (simp at e_ ⊢; omega))
        · have e_ := mem_kernel (rs := [3, 15, 16]) (by kernel_rfl) hi; (first | (simp at e_ ⊢; done) | (simp at e_ ⊢; omega))
        · have e_ := mem_kernel (rs := [3, 15]) (by kernel_rfl) hi; (first | (simp at e_ ⊢; done) | (simp at e_ ⊢; omega))
        · have e_ := mem_kernel (rs := [3, 16]) (by kernel_rfl) hi; (first | (simp at e_ ⊢; done) | (simp at e_ ⊢; omega))
        · have e_ := mem_kernel (rs := [3]) (by kernel_rfl) hi; (first | (simp at e_ ⊢; done) | (simp at e_ ⊢; omega))
      · intro x y z
        cases x <;> cases y <;> cases z
        · exact ne_kernel (rs := [3, 14, 15, 16]) (by kernel_rfl) (by simp)
        · exact ne_kernel (rs := [3, 14, 15]) (by kernel_rfl) (by simp)
        · exact ne_kernel (rs := [3, 14, 16]) (by kernel_rfl) (by simp)
        · exact ne_kernel (rs := [3, 14]) (by kernel_rfl) (by simp)
        · exact ne_kernel (rs := [3, 15, 16]) (by kernel_rfl) (by simp)
        · exact ne_kernel (rs := [3, 15]) (by kernel_rfl) (by simp)
        · exact ne_kernel (rs := [3, 16]) (by kernel_rfl) (by simp)
        · exact ne_kernel (rs := [3]) (by kernel_rfl) (by simp)
      · intro x y; cases x <;> cases y <;> kernel_rfl
      · intro x y; cases x <;> cases y <;> kernel_rfl
      · intro x y; cases x <;> cases y <;> kernel_rfl
      · intro x y z; cases x <;> cases y <;> cases z <;> kernel_rfl
      · rintro y z a w hSw ⟨vx, vy, vz, gx, rfl, Hx, bx, by_, bz⟩
        refine wpOp_step (i := 14) rfl (fun K hK => ?_)
        have HK : Shut _ := hK
        clear hK
        rw [HA0.out]
        simp only [Act.put, List.setIfInBounds_toArray, List.set_cons_zero, List.set_cons_succ]
        go_simp
        exact HK.out _ _ ⟨bel_on (Nat.le_refl _) hSw (al1_b w zCpu), _, vy, vz, gx, (by rw [HA0.out]; simp only [Act.put, List.setIfInBounds_toArray, List.set_cons_zero, List.set_cons_succ]), RowAt.on Hx.out (al1_b w zCpu), VB.new hSw, by_.on (al1_b w zCpu), bz.on (al1_b w zCpu)⟩
      · rintro x z a w hSw ⟨vx, vy, vz, gx, rfl, Hx, bx, by_, bz⟩
        refine wpOp_step (i := 15) rfl (fun K hK => ?_)
        have HK : Shut _ := hK
        clear hK
        rw [HA0.out]
        simp only [Act.put, List.setIfInBounds_toArray, List.set_cons_zero, List.set_cons_succ]
        go_simp
        exact HK.out _ _ ⟨bel_on (Nat.le_refl _) hSw (al1_b w zAr), vx, _, vz, gx, (by rw [HA0.out]; simp only [Act.put, List.setIfInBounds_toArray, List.set_cons_zero, List.set_cons_succ]), RowAt.on Hx.out (al1_b w zAr), bx.on (al1_b w zAr), VB.new hSw, bz.on (al1_b w zAr)⟩
      · rintro x y a w hSw ⟨vx, vy, vz, gx, rfl, Hx, bx, by_, bz⟩
        refine wpOp_step (i := 16) rfl (fun K hK => ?_)
        have HK : Shut _ := hK
        clear hK
        rw [HA0.out]
        simp only [Act.put, List.setIfInBounds_toArray, List.set_cons_zero, List.set_cons_succ]
        go_simp
        exact HK.out _ _ ⟨bel_on (Nat.le_refl _) hSw (al1_b w zEf), vx, vy, _, gx, (by rw [HA0.out]; simp only [Act.put, List.setIfInBounds_toArray, List.set_cons_zero, List.set_cons_succ]), RowAt.on Hx.out (al1_b w zEf), bx.on (al1_b w zEf), by_.on (al1_b w zEf), VB.new hSw⟩
      · rintro x y z a w hSw ⟨vx, vy, vz, gx, rfl, Hx, bx, by_, bz⟩
        refine wpOp_step (i := 3) rfl (fun K hK => ?_)
        have HK : Shut _ := hK
        clear hK
        rw [HA0.out]
        simp only [Act.put, List.setIfInBounds_toArray, List.set_cons_zero, List.set_cons_succ]
        go_simp
        go_at_call 19
        refine (I.toRs qc rl nc cc HLC.out hnc _ (HI2.out.on hSw)).mono ?_
        rintro e w9 ⟨rfl, hrow9, hb9⟩
        go_wp2_with fail
        exact HK.out _ _ ⟨bel_on (Nat.le_refl _) hSw (hb9), vx, vy, vz, gx, w.heap.size, (by rw [HA0.out]; simp only [Act.put, List.setIfInBounds_toArray, List.set_cons_zero, List.set_cons_succ]), RowAt.on Hx.out (hb9), hrow9, bx.on (hb9), by_.on (hb9), bz.on (hb9)⟩
      refine stage3 (i1 := 14) (i2 := 15) (i3 := 16) (c := 5) (fun x y z => #[true, true, true, true, true, false, true, false, true, false, false, false, false, false, x, y, z, false, false, false]) (fun x y z => #[true, true, true, true, true, true, true, false, true, false, false, false, false, false, x, y, z, false, false, false]) (fun x y z a w => ∃ (vx vy vz : Value) (gx : Nat) (kq : Nat), a = (((((a0.put (some 44) (.agg #[.int .i64 pc, .slice (some ⟨gx, 0, none⟩) n n])).put (some 46) (.slice (some ⟨kq, 0, none⟩) nc nc)).put (some 12) vx).put (some 13) vy).put (some 14) vz) ∧ Hid (RowAt w gx st) ∧ Hid (I.RowR w kq rl) ∧ VB w2 x vx w zCpu ∧ VB w2 y vy w zAr ∧ VB w2 z vz w zEf) (fun x y z a w => ∃ (vx vy vz : Value) (gx : Nat) (kq : Nat) (gy : Nat), a = ((((((a0.put (some 44) (.agg #[.int .i64 pc, .slice (some ⟨gx, 0, none⟩) n n])).put (some 46) (.slice (some ⟨kq, 0, none⟩) nc nc)).put (some 48) (.agg #[.slice (some ⟨gy, 0, none⟩) m m])).put (some 12) vx).put (some 13) vy).put (some 14) vz) ∧ Hid (RowAt w gx st) ∧ Hid (I.RowR w kq rl) ∧ Hid (RowAt w gy ce) ∧ VB w2 x vx w zCpu ∧ VB w2 y vy w zAr ∧ VB w2 z vz w zEf) 9 ?_ ?_ ?_ ?_ ?_ ?_ ?_ ?_ ?_ ?_ ?_
      · intro x y z i hi
        cases x <;> cases y <;> cases z
        · have e_ := mem_kernel (rs := [5, 14, 15, 16]) (by kernel_rfl) hi; (first | (simp at e_ ⊢; done) | (simp at e_ ⊢; omega))
        · have e_ := mem_kernel (rs := [5, 14, 15]) (by kernel_rfl) hi; (first | (simp at e_ ⊢; done) | (simp at e_ ⊢; omega))
        · have e_ := mem_kernel (rs := [5, 14, 16]) (by kernel_rfl) hi; (first | (simp at e_ ⊢; done) | (simp at e_ ⊢; omega))
        · have e_ := mem_kernel (rs := [5, 14]) (by kernel_rfl) hi; (first | (simp at e_ ⊢; done) | (simp at e_ ⊢; omega))
        · have e_ := mem_kernel (rs := [5, 15, 16]) (by kernel_rfl) hi; (first | (simp at e_ ⊢; done) | (simp at e_ ⊢; omega))
        · have e_ := mem_kernel (rs := [5, 15]) (by kernel_rfl) hi; (first | (simp at e_ ⊢; done) | (simp at e_ ⊢; omega))
        · have e_ := mem_kernel (rs := [5, 16]) (by kernel_rfl) hi; (first | (simp at e_ ⊢; done) | (simp at e_ ⊢; omega))
        · have e_ := mem_kernel (rs := [5]) (by kernel_rfl) hi; (first | (simp at e_ ⊢; done) | (simp at e_ ⊢; omega))
      · intro x y z
        cases x <;> cases y <;> cases z
        · exact ne_kernel (rs := [5, 14, 15, 16]) (by kernel_rfl) (by simp)
        · exact ne_kernel (rs := [5, 14, 15]) (by kernel_rfl) (by simp)
        · exact ne_kernel (rs := [5, 14, 16]) (by kernel_rfl) (by simp)
        · exact ne_kernel (rs := [5, 14]) (by kernel_rfl) (by simp)
        · exact ne_kernel (rs := [5, 15, 16]) (by kernel_rfl) (by simp)
        · exact ne_kernel (rs := [5, 15]) (by kernel_rfl) (by simp)
        · exact ne_kernel (rs := [5, 16]) (by kernel_rfl) (by simp)
        · exact ne_kernel (rs := [5]) (by kernel_rfl) (by simp)
      · intro x y; cases x <;> cases y <;> kernel_rfl
      · intro x y; cases x <;> cases y <;> kernel_rfl
      · intro x y; cases x <;> cases y <;> kernel_rfl
      · intro x y z; cases x <;> cases y <;> cases z <;> kernel_rfl
      · rintro y z a w hSw ⟨vx, vy, vz, gx, kq, rfl, Hx, Hi, bx, by_, bz⟩
        refine wpOp_step (i := 14) rfl (fun K hK => ?_)
        have HK : Shut _ := hK
        clear hK
        rw [HA0.out]
        simp only [Act.put, List.setIfInBounds_toArray, List.set_cons_zero, List.set_cons_succ]
        go_simp
        exact HK.out _ _ ⟨bel_on (Nat.le_refl _) hSw (al1_b w zCpu), _, vy, vz, gx, kq, (by rw [HA0.out]; simp only [Act.put, List.setIfInBounds_toArray, List.set_cons_zero, List.set_cons_succ]), RowAt.on Hx.out (al1_b w zCpu), I.RowR.on Hi.out (al1_b w zCpu), VB.new hSw, by_.on (al1_b w zCpu), bz.on (al1_b w zCpu)⟩
      · rintro x z a w hSw ⟨vx, vy, vz, gx, kq, rfl, Hx, Hi, bx, by_, bz⟩
        refine wpOp_step (i := 15) rfl (fun K hK => ?_)
        have HK : Shut _ := hK
        clear hK
        rw [HA0.out]
        simp only [Act.put, List.setIfInBounds_toArray, List.set_cons_zero, List.set_cons_succ]
        go_simp
        exact HK.out _ _ ⟨bel_on (Nat.le_refl _) hSw (al1_b w zAr), vx, _, vz, gx, kq, (by rw [HA0.out]; simp only [Act.put, List.setIfInBounds_toArray, List.set_cons_zero, List.set_cons_succ]), RowAt.on Hx.out (al1_b w zAr), I.RowR.on Hi.out (al1_b w zAr), bx.on (al1_b w zAr), VB.new hSw, bz.on (al1_b w zAr)⟩
      · rintro x y a w hSw ⟨vx, vy, vz, gx, kq, rfl, Hx, Hi, bx, by_, bz⟩
        refine wpOp_step (i := 16) rfl (fun K hK => ?_)
        have HK : Shut _ := hK
        clear hK
        rw [HA0.out]
        simp only [Act.put, List.setIfInBounds_toArray, List.set_cons_zero, List.set_cons_succ]
        go_simp
        exact HK.out _ _ ⟨bel_on (Nat.le_refl _) hSw (al1_b w zEf), vx, vy, _, gx, kq, (by rw [HA0.out]; simp only [Act.put, List.setIfInBounds_toArray, List.set_cons_zero, List.set_cons_succ]), RowAt.on Hx.out (al1_b w zEf), I.RowR.on Hi.out (al1_b w zEf), bx.on (al1_b w zEf), by_.on (al1_b w zEf), VB.new hSw⟩
      · rintro x y z a w hSw ⟨vx, vy, vz, gx, kq, rfl, Hx, Hi, bx, by_, bz⟩
        refine wpOp_step (i := 5) rfl (fun K hK => ?_)
        have HK : Shut _ := hK
        clear hK
        rw [HA0.out]
        simp only [Act.put, List.setIfInBounds_toArray, List.set_cons_zero, List.set_cons_succ]
        go_simp
        go_at_call 20
        refine (toA qa ce m ca HLA.out hm _ (HA2.out.on hSw)).mono ?_
        rintro e w9 ⟨gy, rfl, _, hrow9, hb9⟩
        go_wp2_with fail
        exact HK.out _ _ ⟨bel_on (Nat.le_refl _) hSw (hb9), vx, vy, vz, gx, kq, gy, (by rw [HA0.out]; simp only [Act.put, List.setIfInBounds_toArray, List.set_cons_zero, List.set_cons_succ]), RowAt.on Hx.out (hb9), I.RowR.on Hi.out (hb9), hrow9, bx.on (hb9), by_.on (hb9), bz.on (hb9)⟩
      refine stage3 (i1 := 14) (i2 := 15) (i3 := 16) (c := 7) (fun x y z => #[true, true, true, true, true, true, true, false, true, false, false, false, false, false, x, y, z, false, false, false]) (fun x y z => #[true, true, true, true, true, true, true, true, true, false, false, false, false, false, x, y, z, false, false, false]) (fun x y z a w => ∃ (vx vy vz : Value) (gx : Nat) (kq : Nat) (gy : Nat), a = ((((((a0.put (some 44) (.agg #[.int .i64 pc, .slice (some ⟨gx, 0, none⟩) n n])).put (some 46) (.slice (some ⟨kq, 0, none⟩) nc nc)).put (some 48) (.agg #[.slice (some ⟨gy, 0, none⟩) m m])).put (some 12) vx).put (some 13) vy).put (some 14) vz) ∧ Hid (RowAt w gx st) ∧ Hid (I.RowR w kq rl) ∧ Hid (RowAt w gy ce) ∧ VB w2 x vx w zCpu ∧ VB w2 y vy w zAr ∧ VB w2 z vz w zEf) (fun x y z a w => ∃ (vx vy vz : Value) (gx : Nat) (kq : Nat) (gy : Nat), a = (((((((a0.put (some 44) (.agg #[.int .i64 pc, .slice (some ⟨gx, 0, none⟩) n n])).put (some 46) (.slice (some ⟨kq, 0, none⟩) nc nc)).put (some 48) (.agg #[.slice (some ⟨gy, 0, none⟩) m m])).put (some 50) (.agg #[.int .i64 f, .int .i64 s])).put (some 12) vx).put (some 13) vy).put (some 14) vz) ∧ Hid (RowAt w gx st) ∧ Hid (I.RowR w kq rl) ∧ Hid (RowAt w gy ce) ∧ VB w2 x vx w zCpu ∧ VB w2 y vy w zAr ∧ VB w2 z vz w zEf) 8 ?_ ?_ ?_ ?_ ?_ ?_ ?_ ?_ ?_ ?_ ?_
      · intro x y z i hi
        cases x <;> cases y <;> cases z
        · have e_ := mem_kernel (rs := [7, 14, 15, 16]) (by kernel_rfl) hi; (first | (simp at e_ ⊢; done) | (simp at e_ ⊢; omega))
        · have e_ := mem_kernel (rs := [7, 14, 15]) (by kernel_rfl) hi; (first | (simp at e_ ⊢; done) | (simp at e_ ⊢; omega))
        · have e_ := mem_kernel (rs := [7, 14, 16]) (by kernel_rfl) hi; (first | (simp at e_ ⊢; done) | (simp at e_ ⊢; omega))
        · have e_ := mem_kernel (rs := [7, 14]) (by kernel_rfl) hi; (first | (simp at e_ ⊢; done) | (simp at e_ ⊢; omega))
        · have e_ := mem_kernel (rs := [7, 15, 16]) (by kernel_rfl) hi; (first | (simp at e_ ⊢; done) | (simp at e_ ⊢; omega))
        · have e_ := mem_kernel (rs := [7, 15]) (by kernel_rfl) hi; (first | (simp at e_ ⊢; done) | (simp at e_ ⊢; omega))
        · have e_ := mem_kernel (rs := [7, 16]) (by kernel_rfl) hi; (first | (simp at e_ ⊢; done) | (simp at e_ ⊢; omega))
        · have e_ := mem_kernel (rs := [7]) (by kernel_rfl) hi; (first | (simp at e_ ⊢; done) | (simp at e_ ⊢; omega))
      · intro x y z
        cases x <;> cases y <;> cases z
        · exact ne_kernel (rs := [7, 14, 15, 16]) (by kernel_rfl) (by simp)
        · exact ne_kernel (rs := [7, 14, 15]) (by kernel_rfl) (by simp)
        · exact ne_kernel (rs := [7, 14, 16]) (by kernel_rfl) (by simp)
        · exact ne_kernel (rs := [7, 14]) (by kernel_rfl) (by simp)
        · exact ne_kernel (rs := [7, 15, 16]) (by kernel_rfl) (by simp)
        · exact ne_kernel (rs := [7, 15]) (by kernel_rfl) (by simp)
        · exact ne_kernel (rs := [7, 16]) (by kernel_rfl) (by simp)
        · exact ne_kernel (rs := [7]) (by kernel_rfl) (by simp)
      · intro x y; cases x <;> cases y <;> kernel_rfl
      · intro x y; cases x <;> cases y <;> kernel_rfl
      · intro x y; cases x <;> cases y <;> kernel_rfl
      · intro x y z; cases x <;> cases y <;> cases z <;> kernel_rfl
      · rintro y z a w hSw ⟨vx, vy, vz, gx, kq, gy, rfl, Hx, Hi, Hy, bx, by_, bz⟩
        refine wpOp_step (i := 14) rfl (fun K hK => ?_)
        have HK : Shut _ := hK
        clear hK
        rw [HA0.out]
        simp only [Act.put, List.setIfInBounds_toArray, List.set_cons_zero, List.set_cons_succ]
        go_simp
        exact HK.out _ _ ⟨bel_on (Nat.le_refl _) hSw (al1_b w zCpu), _, vy, vz, gx, kq, gy, (by rw [HA0.out]; simp only [Act.put, List.setIfInBounds_toArray, List.set_cons_zero, List.set_cons_succ]), RowAt.on Hx.out (al1_b w zCpu), I.RowR.on Hi.out (al1_b w zCpu), RowAt.on Hy.out (al1_b w zCpu), VB.new hSw, by_.on (al1_b w zCpu), bz.on (al1_b w zCpu)⟩
      · rintro x z a w hSw ⟨vx, vy, vz, gx, kq, gy, rfl, Hx, Hi, Hy, bx, by_, bz⟩
        refine wpOp_step (i := 15) rfl (fun K hK => ?_)
        have HK : Shut _ := hK
        clear hK
        rw [HA0.out]
        simp only [Act.put, List.setIfInBounds_toArray, List.set_cons_zero, List.set_cons_succ]
        go_simp
        exact HK.out _ _ ⟨bel_on (Nat.le_refl _) hSw (al1_b w zAr), vx, _, vz, gx, kq, gy, (by rw [HA0.out]; simp only [Act.put, List.setIfInBounds_toArray, List.set_cons_zero, List.set_cons_succ]), RowAt.on Hx.out (al1_b w zAr), I.RowR.on Hi.out (al1_b w zAr), RowAt.on Hy.out (al1_b w zAr), bx.on (al1_b w zAr), VB.new hSw, bz.on (al1_b w zAr)⟩
      · rintro x y a w hSw ⟨vx, vy, vz, gx, kq, gy, rfl, Hx, Hi, Hy, bx, by_, bz⟩
        refine wpOp_step (i := 16) rfl (fun K hK => ?_)
        have HK : Shut _ := hK
        clear hK
        rw [HA0.out]
        simp only [Act.put, List.setIfInBounds_toArray, List.set_cons_zero, List.set_cons_succ]
        go_simp
        exact HK.out _ _ ⟨bel_on (Nat.le_refl _) hSw (al1_b w zEf), vx, vy, _, gx, kq, gy, (by rw [HA0.out]; simp only [Act.put, List.setIfInBounds_toArray, List.set_cons_zero, List.set_cons_succ]), RowAt.on Hx.out (al1_b w zEf), I.RowR.on Hi.out (al1_b w zEf), RowAt.on Hy.out (al1_b w zEf), bx.on (al1_b w zEf), by_.on (al1_b w zEf), VB.new hSw⟩
      · rintro x y z a w hSw ⟨vx, vy, vz, gx, kq, gy, rfl, Hx, Hi, Hy, bx, by_, bz⟩
        refine wpOp_step (i := 7) rfl (fun K hK => ?_)
        have HK : Shut _ := hK
        clear hK
        rw [HA0.out]
        simp only [Act.put, List.setIfInBounds_toArray, List.set_cons_zero, List.set_cons_succ]
        go_simp
        go_at_call 21
        refine (toR f s _).mono ?_
        rintro e w9 ⟨rfl, hb9⟩
        go_wp2_with fail
        exact HK.out _ _ ⟨bel_on (Nat.le_refl _) hSw (hb9), vx, vy, vz, gx, kq, gy, (by rw [HA0.out]; simp only [Act.put, List.setIfInBounds_toArray, List.set_cons_zero, List.set_cons_succ]), RowAt.on Hx.out (hb9), I.RowR.on Hi.out (hb9), RowAt.on Hy.out (hb9), bx.on (hb9), by_.on (hb9), bz.on (hb9)⟩
      refine stage3 (i1 := 14) (i2 := 15) (i3 := 16) (c := 9) (fun x y z => #[true, true, true, true, true, true, true, true, true, false, false, false, false, false, x, y, z, false, false, false]) (fun x y z => #[true, true, true, true, true, true, true, true, true, true, false, false, false, false, x, y, z, false, false, false]) (fun x y z a w => ∃ (vx vy vz : Value) (gx : Nat) (kq : Nat) (gy : Nat), a = (((((((a0.put (some 44) (.agg #[.int .i64 pc, .slice (some ⟨gx, 0, none⟩) n n])).put (some 46) (.slice (some ⟨kq, 0, none⟩) nc nc)).put (some 48) (.agg #[.slice (some ⟨gy, 0, none⟩) m m])).put (some 50) (.agg #[.int .i64 f, .int .i64 s])).put (some 12) vx).put (some 13) vy).put (some 14) vz) ∧ Hid (RowAt w gx st) ∧ Hid (I.RowR w kq rl) ∧ Hid (RowAt w gy ce) ∧ VB w2 x vx w zCpu ∧ VB w2 y vy w zAr ∧ VB w2 z vz w zEf) (fun x y z a w => ∃ (vx vy vz : Value) (gx : Nat) (kq : Nat) (gy : Nat) (gs : Nat) (cs : Nat) (ga : Nat) (ca : Nat), a = ((((((((a0.put (some 44) (.agg #[.int .i64 pc, .slice (some ⟨gx, 0, none⟩) n n])).put (some 46) (.slice (some ⟨kq, 0, none⟩) nc nc)).put (some 48) (.agg #[.slice (some ⟨gy, 0, none⟩) m m])).put (some 50) (.agg #[.int .i64 f, .int .i64 s])).put (some 52) (.tuple #[.agg #[.int .i64 (R : Res).pc, .slice (some ⟨gs, 0, none⟩) N cs], .agg #[.slice (some ⟨ga, 0, none⟩) m ca], .agg #[.int .i64 (R : Res).k, .int .i64 (R : Res).po, .int .i64 (R : Res).nu, .int .i64 (R : Res).tr]])).put (some 12) vx).put (some 13) vy).put (some 14) vz) ∧ Hid (RowAt w gx st) ∧ Hid (I.RowR w kq rl) ∧ Hid (RowAt w gy ce) ∧ Hid (OwnN w w2.heap.size gs N cs (R : Res).st) ∧ Hid (OwnN w w2.heap.size ga m ca (R : Res).ce) ∧ Hid (gs ≠ ga) ∧ VB w2 x vx w zCpu ∧ VB w2 y vy w zAr ∧ VB w2 z vz w zEf) 7 ?_ ?_ ?_ ?_ ?_ ?_ ?_ ?_ ?_ ?_ ?_
      · intro x y z i hi
        cases x <;> cases y <;> cases z
        · have e_ := mem_kernel (rs := [9, 14, 15, 16]) (by kernel_rfl) hi; (first | (simp at e_ ⊢; done) | (simp at e_ ⊢; omega))
        · have e_ := mem_kernel (rs := [9, 14, 15]) (by kernel_rfl) hi; (first | (simp at e_ ⊢; done) | (simp at e_ ⊢; omega))
        · have e_ := mem_kernel (rs := [9, 14, 16]) (by kernel_rfl) hi; (first | (simp at e_ ⊢; done) | (simp at e_ ⊢; omega))
        · have e_ := mem_kernel (rs := [9, 14]) (by kernel_rfl) hi; (first | (simp at e_ ⊢; done) | (simp at e_ ⊢; omega))
        · have e_ := mem_kernel (rs := [9, 15, 16]) (by kernel_rfl) hi; (first | (simp at e_ ⊢; done) | (simp at e_ ⊢; omega))
        · have e_ := mem_kernel (rs := [9, 15]) (by kernel_rfl) hi; (first | (simp at e_ ⊢; done) | (simp at e_ ⊢; omega))
        · have e_ := mem_kernel (rs := [9, 16]) (by kernel_rfl) hi; (first | (simp at e_ ⊢; done) | (simp at e_ ⊢; omega))
        · have e_ := mem_kernel (rs := [9]) (by kernel_rfl) hi; (first | (simp at e_ ⊢; done) | (simp at e_ ⊢; omega))
      · intro x y z
        cases x <;> cases y <;> cases z
        · exact ne_kernel (rs := [9, 14, 15, 16]) (by kernel_rfl) (by simp)
        · exact ne_kernel (rs := [9, 14, 15]) (by kernel_rfl) (by simp)
        · exact ne_kernel (rs := [9, 14, 16]) (by kernel_rfl) (by simp)
        · exact ne_kernel (rs := [9, 14]) (by kernel_rfl) (by simp)
        · exact ne_kernel (rs := [9, 15, 16]) (by kernel_rfl) (by simp)
        · exact ne_kernel (rs := [9, 15]) (by kernel_rfl) (by simp)
        · exact ne_kernel (rs := [9, 16]) (by kernel_rfl) (by simp)
        · exact ne_kernel (rs := [9]) (by kernel_rfl) (by simp)
      · intro x y; cases x <;> cases y <;> kernel_rfl
      · intro x y; cases x <;> cases y <;> kernel_rfl
      · intro x y; cases x <;> cases y <;> kernel_rfl
      · intro x y z; cases x <;> cases y <;> cases z <;> kernel_rfl
      · rintro y z a w hSw ⟨vx, vy, vz, gx, kq, gy, rfl, Hx, Hi, Hy, bx, by_, bz⟩
        refine wpOp_step (i := 14) rfl (fun K hK => ?_)
        have HK : Shut _ := hK
        clear hK
        rw [HA0.out]
        simp only [Act.put, List.setIfInBounds_toArray, List.set_cons_zero, List.set_cons_succ]
        go_simp
        exact HK.out _ _ ⟨bel_on (Nat.le_refl _) hSw (al1_b w zCpu), _, vy, vz, gx, kq, gy, (by rw [HA0.out]; simp only [Act.put, List.setIfInBounds_toArray, List.set_cons_zero, List.set_cons_succ]), RowAt.on Hx.out (al1_b w zCpu), I.RowR.on Hi.out (al1_b w zCpu), RowAt.on Hy.out (al1_b w zCpu), VB.new hSw, by_.on (al1_b w zCpu), bz.on (al1_b w zCpu)⟩
      · rintro x z a w hSw ⟨vx, vy, vz, gx, kq, gy, rfl, Hx, Hi, Hy, bx, by_, bz⟩
        refine wpOp_step (i := 15) rfl (fun K hK => ?_)
        have HK : Shut _ := hK
        clear hK
        rw [HA0.out]
        simp only [Act.put, List.setIfInBounds_toArray, List.set_cons_zero, List.set_cons_succ]
        go_simp
        exact HK.out _ _ ⟨bel_on (Nat.le_refl _) hSw (al1_b w zAr), vx, _, vz, gx, kq, gy, (by rw [HA0.out]; simp only [Act.put, List.setIfInBounds_toArray, List.set_cons_zero, List.set_cons_succ]), RowAt.on Hx.out (al1_b w zAr), I.RowR.on Hi.out (al1_b w zAr), RowAt.on Hy.out (al1_b w zAr), bx.on (al1_b w zAr), VB.new hSw, bz.on (al1_b w zAr)⟩
      · rintro x y a w hSw ⟨vx, vy, vz, gx, kq, gy, rfl, Hx, Hi, Hy, bx, by_, bz⟩
        refine wpOp_step (i := 16) rfl (fun K hK => ?_)
        have HK : Shut _ := hK
        clear hK
        rw [HA0.out]
        simp only [Act.put, List.setIfInBounds_toArray, List.set_cons_zero, List.set_cons_succ]
        go_simp
        exact HK.out _ _ ⟨bel_on (Nat.le_refl _) hSw (al1_b w zEf), vx, vy, _, gx, kq, gy, (by rw [HA0.out]; simp only [Act.put, List.setIfInBounds_toArray, List.set_cons_zero, List.set_cons_succ]), RowAt.on Hx.out (al1_b w zEf), I.RowR.on Hi.out (al1_b w zEf), RowAt.on Hy.out (al1_b w zEf), bx.on (al1_b w zEf), by_.on (al1_b w zEf), VB.new hSw⟩
      · rintro x y z a w hSw ⟨vx, vy, vz, gx, kq, gy, rfl, Hx, Hi, Hy, bx, by_, bz⟩
        refine wpOp_step (i := 9) rfl (fun K hK => ?_)
        have HK : Shut _ := hK
        clear hK
        rw [HA0.out]
        simp only [Act.put, List.setIfInBounds_toArray, List.set_cons_zero, List.set_cons_succ]
        go_simp
        go_at_call 18
        refine (stepS (some ⟨gx, 0, none⟩) pc st n n (some ⟨kq, 0, none⟩) rl nc nc ⟨gy, 0, none⟩ ce m m f s t b R N HL.out hn (by simp) (Nat.le_refl _) HLC.out hnc HLA.out hm HB.out HRR.out HNN.out _ Hx.out.rd Hi.out.rd Hy.out.rd).mono ?_
        rintro e w9 ⟨gs, cs, ga, ca, rfl, hs9, ha9, hne9, hb9⟩
        go_wp2_with fail
        exact HK.out _ _ ⟨bel_on (Nat.le_refl _) hSw (hb9), vx, vy, vz, gx, kq, gy, gs, cs, ga, ca, (by rw [HA0.out]; simp only [Act.put, List.setIfInBounds_toArray, List.set_cons_zero, List.set_cons_succ]), RowAt.on Hx.out (hb9), I.RowR.on Hi.out (hb9), RowAt.on Hy.out (hb9), hs9.mono hSw.size, ha9.mono hSw.size, hne9, bx.on (hb9), by_.on (hb9), bz.on (hb9)⟩
      refine stageT (i := 10) rfl (by kernel_rfl) (fun x y z => #[true, true, true, true, true, true, true, true, true, true, false, false, false, false, x, y, z, false, false, false]) (fun x y z => #[true, true, true, true, true, true, true, true, true, true, true, false, false, false, x, y, z, false, false, false]) (fun x y z a w => ∃ (vx vy vz : Value) (gx : Nat) (kq : Nat) (gy : Nat) (gs : Nat) (cs : Nat) (ga : Nat) (ca : Nat), a = ((((((((a0.put (some 44) (.agg #[.int .i64 pc, .slice (some ⟨gx, 0, none⟩) n n])).put (some 46) (.slice (some ⟨kq, 0, none⟩) nc nc)).put (some 48) (.agg #[.slice (some ⟨gy, 0, none⟩) m m])).put (some 50) (.agg #[.int .i64 f, .int .i64 s])).put (some 52) (.tuple #[.agg #[.int .i64 (R : Res).pc, .slice (some ⟨gs, 0, none⟩) N cs], .agg #[.slice (some ⟨ga, 0, none⟩) m ca], .agg #[.int .i64 (R : Res).k, .int .i64 (R : Res).po, .int .i64 (R : Res).nu, .int .i64 (R : Res).tr]])).put (some 12) vx).put (some 13) vy).put (some 14) vz) ∧ Hid (RowAt w gx st) ∧ Hid (I.RowR w kq rl) ∧ Hid (RowAt w gy ce) ∧ Hid (OwnN w w2.heap.size gs N cs (R : Res).st) ∧ Hid (OwnN w w2.heap.size ga m ca (R : Res).ce) ∧ Hid (gs ≠ ga) ∧ VB w2 x vx w zCpu ∧ VB w2 y vy w zAr ∧ VB w2 z vz w zEf) (fun x y z a w => ∃ (vx vy vz : Value) (gx : Nat) (kq : Nat) (gy : Nat) (gs : Nat) (cs : Nat) (ga : Nat) (ca : Nat), a = (((((((((a0.put (some 44) (.agg #[.int .i64 pc, .slice (some ⟨gx, 0, none⟩) n n])).put (some 46) (.slice (some ⟨kq, 0, none⟩) nc nc)).put (some 48) (.agg #[.slice (some ⟨gy, 0, none⟩) m m])).put (some 50) (.agg #[.int .i64 f, .int .i64 s])).put (some 52) (.tuple #[.agg #[.int .i64 (R : Res).pc, .slice (some ⟨gs, 0, none⟩) N cs], .agg #[.slice (some ⟨ga, 0, none⟩) m ca], .agg #[.int .i64 (R : Res).k, .int .i64 (R : Res).po, .int .i64 (R : Res).nu, .int .i64 (R : Res).tr]])).put (some 42) (.tuple #[.agg #[.int .i64 (R : Res).pc, .slice (some ⟨gs, 0, none⟩) N cs], .agg #[.slice (some ⟨ga, 0, none⟩) m ca], .agg #[.int .i64 (R : Res).k, .int .i64 (R : Res).po, .int .i64 (R : Res).nu, .int .i64 (R : Res).tr]])).put (some 12) vx).put (some 13) vy).put (some 14) vz) ∧ Hid (RowAt w gx st) ∧ Hid (I.RowR w kq rl) ∧ Hid (RowAt w gy ce) ∧ Hid (OwnN w w2.heap.size gs N cs (R : Res).st) ∧ Hid (OwnN w w2.heap.size ga m ca (R : Res).ce) ∧ Hid (gs ≠ ga) ∧ VB w2 x vx w zCpu ∧ VB w2 y vy w zAr ∧ VB w2 z vz w zEf) 6 ?_ ?_ ?_ ?_ ?_ ?_
      · intro x y z; cases x <;> cases y <;> cases z <;> kernel_rfl
      · intro x y z; cases x <;> cases y <;> cases z <;> kernel_rfl
      · intro x y z; cases x <;> cases y <;> cases z <;> kernel_rfl
      · exact fun _ _ _ _ h => h
      · rintro x y z a w hSw ⟨vx, vy, vz, gx, kq, gy, gs, cs, ga, ca, rfl, Hx, Hi, Hy, Hs, Ha, Hn, bx, by_, bz⟩
        refine ⟨.tuple #[.agg #[.int .i64 (R : Res).pc, .slice (some ⟨gs, 0, none⟩) N cs], .agg #[.slice (some ⟨ga, 0, none⟩) m ca], .agg #[.int .i64 (R : Res).k, .int .i64 (R : Res).po, .int .i64 (R : Res).nu, .int .i64 (R : Res).tr]], Or.inl ⟨by rw [HA0.out]; rfl, ?_⟩, vx, vy, vz, gx, kq, gy, gs, cs, ga, ca, (by rw [HA0.out]; simp only [Act.put, List.setIfInBounds_toArray, List.set_cons_zero, List.set_cons_succ, List.getElem_toArray, List.getElem_cons_zero, List.getElem_cons_succ]), Hx, Hi, Hy, Hs, Ha, Hn, bx, by_, bz⟩
        rw [HA0.out]
        simp only [Act.put, List.setIfInBounds_toArray, List.set_cons_zero, List.set_cons_succ]
        intro w hSw; go_simp <;> with_reducible rfl
      refine stageT (i := 11) rfl (by kernel_rfl) (fun x y z => #[true, true, true, true, true, true, true, true, true, true, true, false, false, false, x, y, z, false, false, false]) (fun x y z => #[true, true, true, true, true, true, true, true, true, true, true, true, false, false, x, y, z, false, false, false]) (fun x y z a w => ∃ (vx vy vz : Value) (gx : Nat) (kq : Nat) (gy : Nat) (gs : Nat) (cs : Nat) (ga : Nat) (ca : Nat), a = (((((((((a0.put (some 44) (.agg #[.int .i64 pc, .slice (some ⟨gx, 0, none⟩) n n])).put (some 46) (.slice (some ⟨kq, 0, none⟩) nc nc)).put (some 48) (.agg #[.slice (some ⟨gy, 0, none⟩) m m])).put (some 50) (.agg #[.int .i64 f, .int .i64 s])).put (some 52) (.tuple #[.agg #[.int .i64 (R : Res).pc, .slice (some ⟨gs, 0, none⟩) N cs], .agg #[.slice (some ⟨ga, 0, none⟩) m ca], .agg #[.int .i64 (R : Res).k, .int .i64 (R : Res).po, .int .i64 (R : Res).nu, .int .i64 (R : Res).tr]])).put (some 42) (.tuple #[.agg #[.int .i64 (R : Res).pc, .slice (some ⟨gs, 0, none⟩) N cs], .agg #[.slice (some ⟨ga, 0, none⟩) m ca], .agg #[.int .i64 (R : Res).k, .int .i64 (R : Res).po, .int .i64 (R : Res).nu, .int .i64 (R : Res).tr]])).put (some 12) vx).put (some 13) vy).put (some 14) vz) ∧ Hid (RowAt w gx st) ∧ Hid (I.RowR w kq rl) ∧ Hid (RowAt w gy ce) ∧ Hid (OwnN w w2.heap.size gs N cs (R : Res).st) ∧ Hid (OwnN w w2.heap.size ga m ca (R : Res).ce) ∧ Hid (gs ≠ ga) ∧ VB w2 x vx w zCpu ∧ VB w2 y vy w zAr ∧ VB w2 z vz w zEf) (fun x y z a w => ∃ (vx vy vz : Value) (gx : Nat) (kq : Nat) (gy : Nat) (gs : Nat) (cs : Nat) (ga : Nat) (ca : Nat), a = ((((((((((a0.put (some 44) (.agg #[.int .i64 pc, .slice (some ⟨gx, 0, none⟩) n n])).put (some 46) (.slice (some ⟨kq, 0, none⟩) nc nc)).put (some 48) (.agg #[.slice (some ⟨gy, 0, none⟩) m m])).put (some 50) (.agg #[.int .i64 f, .int .i64 s])).put (some 52) (.tuple #[.agg #[.int .i64 (R : Res).pc, .slice (some ⟨gs, 0, none⟩) N cs], .agg #[.slice (some ⟨ga, 0, none⟩) m ca], .agg #[.int .i64 (R : Res).k, .int .i64 (R : Res).po, .int .i64 (R : Res).nu, .int .i64 (R : Res).tr]])).put (some 42) (.tuple #[.agg #[.int .i64 (R : Res).pc, .slice (some ⟨gs, 0, none⟩) N cs], .agg #[.slice (some ⟨ga, 0, none⟩) m ca], .agg #[.int .i64 (R : Res).k, .int .i64 (R : Res).po, .int .i64 (R : Res).nu, .int .i64 (R : Res).tr]])).put (some 53) (.agg #[.int .i64 (R : Res).pc, .slice (some ⟨gs, 0, none⟩) N cs])).put (some 12) vx).put (some 13) vy).put (some 14) vz) ∧ Hid (RowAt w gx st) ∧ Hid (I.RowR w kq rl) ∧ Hid (RowAt w gy ce) ∧ Hid (OwnN w w2.heap.size gs N cs (R : Res).st) ∧ Hid (OwnN w w2.heap.size ga m ca (R : Res).ce) ∧ Hid (gs ≠ ga) ∧ VB w2 x vx w zCpu ∧ VB w2 y vy w zAr ∧ VB w2 z vz w zEf) 5 ?_ ?_ ?_ ?_ ?_ ?_
      · intro x y z; cases x <;> cases y <;> cases z <;> kernel_rfl
      · intro x y z; cases x <;> cases y <;> cases z <;> kernel_rfl
      · intro x y z; cases x <;> cases y <;> cases z <;> kernel_rfl
      · exact fun _ _ _ _ h => h
      · rintro x y z a w hSw ⟨vx, vy, vz, gx, kq, gy, gs, cs, ga, ca, rfl, Hx, Hi, Hy, Hs, Ha, Hn, bx, by_, bz⟩
        refine ⟨.agg #[.int .i64 (R : Res).pc, .slice (some ⟨gs, 0, none⟩) N cs], Or.inl ⟨by rw [HA0.out]; rfl, ?_⟩, vx, vy, vz, gx, kq, gy, gs, cs, ga, ca, (by rw [HA0.out]; simp only [Act.put, List.setIfInBounds_toArray, List.set_cons_zero, List.set_cons_succ, List.getElem_toArray, List.getElem_cons_zero, List.getElem_cons_succ]), Hx, Hi, Hy, Hs, Ha, Hn, bx, by_, bz⟩
        rw [HA0.out]
        simp only [Act.put, List.setIfInBounds_toArray, List.set_cons_zero, List.set_cons_succ]
        intro w hSw; go_simp <;> with_reducible rfl
      refine stageT (i := 12) rfl (by kernel_rfl) (fun x y z => #[true, true, true, true, true, true, true, true, true, true, true, true, false, false, x, y, z, false, false, false]) (fun x y z => #[true, true, true, true, true, true, true, true, true, true, true, true, true, false, x, y, z, false, false, false]) (fun x y z a w => ∃ (vx vy vz : Value) (gx : Nat) (kq : Nat) (gy : Nat) (gs : Nat) (cs : Nat) (ga : Nat) (ca : Nat), a = ((((((((((a0.put (some 44) (.agg #[.int .i64 pc, .slice (some ⟨gx, 0, none⟩) n n])).put (some 46) (.slice (some ⟨kq, 0, none⟩) nc nc)).put (some 48) (.agg #[.slice (some ⟨gy, 0, none⟩) m m])).put (some 50) (.agg #[.int .i64 f, .int .i64 s])).put (some 52) (.tuple #[.agg #[.int .i64 (R : Res).pc, .slice (some ⟨gs, 0, none⟩) N cs], .agg #[.slice (some ⟨ga, 0, none⟩) m ca], .agg #[.int .i64 (R : Res).k, .int .i64 (R : Res).po, .int .i64 (R : Res).nu, .int .i64 (R : Res).tr]])).put (some 42) (.tuple #[.agg #[.int .i64 (R : Res).pc, .slice (some ⟨gs, 0, none⟩) N cs], .agg #[.slice (some ⟨ga, 0, none⟩) m ca], .agg #[.int .i64 (R : Res).k, .int .i64 (R : Res).po, .int .i64 (R : Res).nu, .int .i64 (R : Res).tr]])).put (some 53) (.agg #[.int .i64 (R : Res).pc, .slice (some ⟨gs, 0, none⟩) N cs])).put (some 12) vx).put (some 13) vy).put (some 14) vz) ∧ Hid (RowAt w gx st) ∧ Hid (I.RowR w kq rl) ∧ Hid (RowAt w gy ce) ∧ Hid (OwnN w w2.heap.size gs N cs (R : Res).st) ∧ Hid (OwnN w w2.heap.size ga m ca (R : Res).ce) ∧ Hid (gs ≠ ga) ∧ VB w2 x vx w zCpu ∧ VB w2 y vy w zAr ∧ VB w2 z vz w zEf) (fun x y z a w => ∃ (vx vy vz : Value) (gx : Nat) (kq : Nat) (gy : Nat) (gs : Nat) (cs : Nat) (ga : Nat) (ca : Nat), a = (((((((((((a0.put (some 44) (.agg #[.int .i64 pc, .slice (some ⟨gx, 0, none⟩) n n])).put (some 46) (.slice (some ⟨kq, 0, none⟩) nc nc)).put (some 48) (.agg #[.slice (some ⟨gy, 0, none⟩) m m])).put (some 50) (.agg #[.int .i64 f, .int .i64 s])).put (some 52) (.tuple #[.agg #[.int .i64 (R : Res).pc, .slice (some ⟨gs, 0, none⟩) N cs], .agg #[.slice (some ⟨ga, 0, none⟩) m ca], .agg #[.int .i64 (R : Res).k, .int .i64 (R : Res).po, .int .i64 (R : Res).nu, .int .i64 (R : Res).tr]])).put (some 42) (.tuple #[.agg #[.int .i64 (R : Res).pc, .slice (some ⟨gs, 0, none⟩) N cs], .agg #[.slice (some ⟨ga, 0, none⟩) m ca], .agg #[.int .i64 (R : Res).k, .int .i64 (R : Res).po, .int .i64 (R : Res).nu, .int .i64 (R : Res).tr]])).put (some 53) (.agg #[.int .i64 (R : Res).pc, .slice (some ⟨gs, 0, none⟩) N cs])).put (some 54) (.agg #[.slice (some ⟨ga, 0, none⟩) m ca])).put (some 12) vx).put (some 13) vy).put (some 14) vz) ∧ Hid (RowAt w gx st) ∧ Hid (I.RowR w kq rl) ∧ Hid (RowAt w gy ce) ∧ Hid (OwnN w w2.heap.size gs N cs (R : Res).st) ∧ Hid (OwnN w w2.heap.size ga m ca (R : Res).ce) ∧ Hid (gs ≠ ga) ∧ VB w2 x vx w zCpu ∧ VB w2 y vy w zAr ∧ VB w2 z vz w zEf) 4 ?_ ?_ ?_ ?_ ?_ ?_
      · intro x y z; cases x <;> cases y <;> cases z <;> kernel_rfl
      · intro x y z; cases x <;> cases y <;> cases z <;> kernel_rfl
      · intro x y z; cases x <;> cases y <;> cases z <;> kernel_rfl
      · exact fun _ _ _ _ h => h
      · rintro x y z a w hSw ⟨vx, vy, vz, gx, kq, gy, gs, cs, ga, ca, rfl, Hx, Hi, Hy, Hs, Ha, Hn, bx, by_, bz⟩
        refine ⟨.agg #[.slice (some ⟨ga, 0, none⟩) m ca], Or.inl ⟨by rw [HA0.out]; rfl, ?_⟩, vx, vy, vz, gx, kq, gy, gs, cs, ga, ca, (by rw [HA0.out]; simp only [Act.put, List.setIfInBounds_toArray, List.set_cons_zero, List.set_cons_succ, List.getElem_toArray, List.getElem_cons_zero, List.getElem_cons_succ]), Hx, Hi, Hy, Hs, Ha, Hn, bx, by_, bz⟩
        rw [HA0.out]
        simp only [Act.put, List.setIfInBounds_toArray, List.set_cons_zero, List.set_cons_succ]
        intro w hSw; go_simp <;> with_reducible rfl
      refine stageT (i := 13) rfl (by kernel_rfl) (fun x y z => #[true, true, true, true, true, true, true, true, true, true, true, true, true, false, x, y, z, false, false, false]) (fun x y z => #[true, true, true, true, true, true, true, true, true, true, true, true, true, true, x, y, z, false, false, false]) (fun x y z a w => ∃ (vx vy vz : Value) (gx : Nat) (kq : Nat) (gy : Nat) (gs : Nat) (cs : Nat) (ga : Nat) (ca : Nat), a = (((((((((((a0.put (some 44) (.agg #[.int .i64 pc, .slice (some ⟨gx, 0, none⟩) n n])).put (some 46) (.slice (some ⟨kq, 0, none⟩) nc nc)).put (some 48) (.agg #[.slice (some ⟨gy, 0, none⟩) m m])).put (some 50) (.agg #[.int .i64 f, .int .i64 s])).put (some 52) (.tuple #[.agg #[.int .i64 (R : Res).pc, .slice (some ⟨gs, 0, none⟩) N cs], .agg #[.slice (some ⟨ga, 0, none⟩) m ca], .agg #[.int .i64 (R : Res).k, .int .i64 (R : Res).po, .int .i64 (R : Res).nu, .int .i64 (R : Res).tr]])).put (some 42) (.tuple #[.agg #[.int .i64 (R : Res).pc, .slice (some ⟨gs, 0, none⟩) N cs], .agg #[.slice (some ⟨ga, 0, none⟩) m ca], .agg #[.int .i64 (R : Res).k, .int .i64 (R : Res).po, .int .i64 (R : Res).nu, .int .i64 (R : Res).tr]])).put (some 53) (.agg #[.int .i64 (R : Res).pc, .slice (some ⟨gs, 0, none⟩) N cs])).put (some 54) (.agg #[.slice (some ⟨ga, 0, none⟩) m ca])).put (some 12) vx).put (some 13) vy).put (some 14) vz) ∧ Hid (RowAt w gx st) ∧ Hid (I.RowR w kq rl) ∧ Hid (RowAt w gy ce) ∧ Hid (OwnN w w2.heap.size gs N cs (R : Res).st) ∧ Hid (OwnN w w2.heap.size ga m ca (R : Res).ce) ∧ Hid (gs ≠ ga) ∧ VB w2 x vx w zCpu ∧ VB w2 y vy w zAr ∧ VB w2 z vz w zEf) (fun x y z a w => ∃ (vx vy vz : Value) (gx : Nat) (kq : Nat) (gy : Nat) (gs : Nat) (cs : Nat) (ga : Nat) (ca : Nat), a = ((((((((((((a0.put (some 44) (.agg #[.int .i64 pc, .slice (some ⟨gx, 0, none⟩) n n])).put (some 46) (.slice (some ⟨kq, 0, none⟩) nc nc)).put (some 48) (.agg #[.slice (some ⟨gy, 0, none⟩) m m])).put (some 50) (.agg #[.int .i64 f, .int .i64 s])).put (some 52) (.tuple #[.agg #[.int .i64 (R : Res).pc, .slice (some ⟨gs, 0, none⟩) N cs], .agg #[.slice (some ⟨ga, 0, none⟩) m ca], .agg #[.int .i64 (R : Res).k, .int .i64 (R : Res).po, .int .i64 (R : Res).nu, .int .i64 (R : Res).tr]])).put (some 42) (.tuple #[.agg #[.int .i64 (R : Res).pc, .slice (some ⟨gs, 0, none⟩) N cs], .agg #[.slice (some ⟨ga, 0, none⟩) m ca], .agg #[.int .i64 (R : Res).k, .int .i64 (R : Res).po, .int .i64 (R : Res).nu, .int .i64 (R : Res).tr]])).put (some 53) (.agg #[.int .i64 (R : Res).pc, .slice (some ⟨gs, 0, none⟩) N cs])).put (some 54) (.agg #[.slice (some ⟨ga, 0, none⟩) m ca])).put (some 55) (.agg #[.int .i64 (R : Res).k, .int .i64 (R : Res).po, .int .i64 (R : Res).nu, .int .i64 (R : Res).tr])).put (some 12) vx).put (some 13) vy).put (some 14) vz) ∧ Hid (RowAt w gx st) ∧ Hid (I.RowR w kq rl) ∧ Hid (RowAt w gy ce) ∧ Hid (OwnN w w2.heap.size gs N cs (R : Res).st) ∧ Hid (OwnN w w2.heap.size ga m ca (R : Res).ce) ∧ Hid (gs ≠ ga) ∧ VB w2 x vx w zCpu ∧ VB w2 y vy w zAr ∧ VB w2 z vz w zEf) 3 ?_ ?_ ?_ ?_ ?_ ?_
      · intro x y z; cases x <;> cases y <;> cases z <;> kernel_rfl
      · intro x y z; cases x <;> cases y <;> cases z <;> kernel_rfl
      · intro x y z; cases x <;> cases y <;> cases z <;> kernel_rfl
      · exact fun _ _ _ _ h => h
      · rintro x y z a w hSw ⟨vx, vy, vz, gx, kq, gy, gs, cs, ga, ca, rfl, Hx, Hi, Hy, Hs, Ha, Hn, bx, by_, bz⟩
        refine ⟨.agg #[.int .i64 (R : Res).k, .int .i64 (R : Res).po, .int .i64 (R : Res).nu, .int .i64 (R : Res).tr], Or.inl ⟨by rw [HA0.out]; rfl, ?_⟩, vx, vy, vz, gx, kq, gy, gs, cs, ga, ca, (by rw [HA0.out]; simp only [Act.put, List.setIfInBounds_toArray, List.set_cons_zero, List.set_cons_succ, List.getElem_toArray, List.getElem_cons_zero, List.getElem_cons_succ]), Hx, Hi, Hy, Hs, Ha, Hn, bx, by_, bz⟩
        rw [HA0.out]
        simp only [Act.put, List.setIfInBounds_toArray, List.set_cons_zero, List.set_cons_succ]
        intro w hSw; go_simp <;> with_reducible rfl
      refine stage3e (i1 := 14) (i2 := 15) (i3 := 16) (fun x y z => #[true, true, true, true, true, true, true, true, true, true, true, true, true, true, x, y, z, false, false, false]) (fun x y z a w => ∃ (vx vy vz : Value) (gx : Nat) (kq : Nat) (gy : Nat) (gs : Nat) (cs : Nat) (ga : Nat) (ca : Nat), a = ((((((((((((a0.put (some 44) (.agg #[.int .i64 pc, .slice (some ⟨gx, 0, none⟩) n n])).put (some 46) (.slice (some ⟨kq, 0, none⟩) nc nc)).put (some 48) (.agg #[.slice (some ⟨gy, 0, none⟩) m m])).put (some 50) (.agg #[.int .i64 f, .int .i64 s])).put (some 52) (.tuple #[.agg #[.int .i64 (R : Res).pc, .slice (some ⟨gs, 0, none⟩) N cs], .agg #[.slice (some ⟨ga, 0, none⟩) m ca], .agg #[.int .i64 (R : Res).k, .int .i64 (R : Res).po, .int .i64 (R : Res).nu, .int .i64 (R : Res).tr]])).put (some 42) (.tuple #[.agg #[.int .i64 (R : Res).pc, .slice (some ⟨gs, 0, none⟩) N cs], .agg #[.slice (some ⟨ga, 0, none⟩) m ca], .agg #[.int .i64 (R : Res).k, .int .i64 (R : Res).po, .int .i64 (R : Res).nu, .int .i64 (R : Res).tr]])).put (some 53) (.agg #[.int .i64 (R : Res).pc, .slice (some ⟨gs, 0, none⟩) N cs])).put (some 54) (.agg #[.slice (some ⟨ga, 0, none⟩) m ca])).put (some 55) (.agg #[.int .i64 (R : Res).k, .int .i64 (R : Res).po, .int .i64 (R : Res).nu, .int .i64 (R : Res).tr])).put (some 12) vx).put (some 13) vy).put (some 14) vz) ∧ Hid (RowAt w gx st) ∧ Hid (I.RowR w kq rl) ∧ Hid (RowAt w gy ce) ∧ Hid (OwnN w w2.heap.size gs N cs (R : Res).st) ∧ Hid (OwnN w w2.heap.size ga m ca (R : Res).ce) ∧ Hid (gs ≠ ga) ∧ VB w2 x vx w zCpu ∧ VB w2 y vy w zAr ∧ VB w2 z vz w zEf) 3 ?_ ?_ ?_ ?_ ?_ ?_ ?_ ?_ ?_
      · intro x y z hp i hi
        cases x <;> cases y <;> cases z
        · have e_ := mem_kernel (rs := [14, 15, 16]) (by kernel_rfl) hi; (first | (simp at e_ ⊢; done) | (simp at e_ ⊢; omega))
        · have e_ := mem_kernel (rs := [14, 15]) (by kernel_rfl) hi; (first | (simp at e_ ⊢; done) | (simp at e_ ⊢; omega))
        · have e_ := mem_kernel (rs := [14, 16]) (by kernel_rfl) hi; (first | (simp at e_ ⊢; done) | (simp at e_ ⊢; omega))
        · have e_ := mem_kernel (rs := [14]) (by kernel_rfl) hi; (first | (simp at e_ ⊢; done) | (simp at e_ ⊢; omega))
        · have e_ := mem_kernel (rs := [15, 16]) (by kernel_rfl) hi; (first | (simp at e_ ⊢; done) | (simp at e_ ⊢; omega))
        · have e_ := mem_kernel (rs := [15]) (by kernel_rfl) hi; (first | (simp at e_ ⊢; done) | (simp at e_ ⊢; omega))
        · have e_ := mem_kernel (rs := [16]) (by kernel_rfl) hi; (first | (simp at e_ ⊢; done) | (simp at e_ ⊢; omega))
        · simp at hp
      · intro x y z
        cases x <;> cases y <;> cases z
        · exact ne_kernel (rs := [14, 15, 16]) (by kernel_rfl) (by simp)
        · exact ne_kernel (rs := [14, 15]) (by kernel_rfl) (by simp)
        · exact ne_kernel (rs := [14, 16]) (by kernel_rfl) (by simp)
        · exact ne_kernel (rs := [14]) (by kernel_rfl) (by simp)
        · exact ne_kernel (rs := [15, 16]) (by kernel_rfl) (by simp)
        · exact ne_kernel (rs := [15]) (by kernel_rfl) (by simp)
        · exact ne_kernel (rs := [16]) (by kernel_rfl) (by simp)
        · exact ne_kernel (rs := [17]) (by kernel_rfl) (by simp)
      · intro x y; cases x <;> cases y <;> kernel_rfl
      · intro x y; cases x <;> cases y <;> kernel_rfl
      · intro x y; cases x <;> cases y <;> kernel_rfl
      · rintro y z a w hSw ⟨vx, vy, vz, gx, kq, gy, gs, cs, ga, ca, rfl, Hx, Hi, Hy, Hs, Ha, Hn, bx, by_, bz⟩
        refine wpOp_step (i := 14) rfl (fun K hK => ?_)
        have HK : Shut _ := hK
        clear hK
        rw [HA0.out]
        simp only [Act.put, List.setIfInBounds_toArray, List.set_cons_zero, List.set_cons_succ]
        go_simp
        exact HK.out _ _ ⟨bel_on (Nat.le_refl _) hSw (al1_b w zCpu), _, vy, vz, gx, kq, gy, gs, cs, ga, ca, (by rw [HA0.out]; simp only [Act.put, List.setIfInBounds_toArray, List.set_cons_zero, List.set_cons_succ]), RowAt.on Hx.out (al1_b w zCpu), I.RowR.on Hi.out (al1_b w zCpu), RowAt.on Hy.out (al1_b w zCpu), Hs.out.on (al1_b w zCpu), Ha.out.on (al1_b w zCpu), Hn.out, VB.new hSw, by_.on (al1_b w zCpu), bz.on (al1_b w zCpu)⟩
      · rintro x z a w hSw ⟨vx, vy, vz, gx, kq, gy, gs, cs, ga, ca, rfl, Hx, Hi, Hy, Hs, Ha, Hn, bx, by_, bz⟩
        refine wpOp_step (i := 15) rfl (fun K hK => ?_)
        have HK : Shut _ := hK
        clear hK
        rw [HA0.out]
        simp only [Act.put, List.setIfInBounds_toArray, List.set_cons_zero, List.set_cons_succ]
        go_simp
        exact HK.out _ _ ⟨bel_on (Nat.le_refl _) hSw (al1_b w zAr), vx, _, vz, gx, kq, gy, gs, cs, ga, ca, (by rw [HA0.out]; simp only [Act.put, List.setIfInBounds_toArray, List.set_cons_zero, List.set_cons_succ]), RowAt.on Hx.out (al1_b w zAr), I.RowR.on Hi.out (al1_b w zAr), RowAt.on Hy.out (al1_b w zAr), Hs.out.on (al1_b w zAr), Ha.out.on (al1_b w zAr), Hn.out, bx.on (al1_b w zAr), VB.new hSw, bz.on (al1_b w zAr)⟩
      · rintro x y a w hSw ⟨vx, vy, vz, gx, kq, gy, gs, cs, ga, ca, rfl, Hx, Hi, Hy, Hs, Ha, Hn, bx, by_, bz⟩
        refine wpOp_step (i := 16) rfl (fun K hK => ?_)
        have HK : Shut _ := hK
        clear hK
        rw [HA0.out]
        simp only [Act.put, List.setIfInBounds_toArray, List.set_cons_zero, List.set_cons_succ]
        go_simp
        exact HK.out _ _ ⟨bel_on (Nat.le_refl _) hSw (al1_b w zEf), vx, vy, _, gx, kq, gy, gs, cs, ga, ca, (by rw [HA0.out]; simp only [Act.put, List.setIfInBounds_toArray, List.set_cons_zero, List.set_cons_succ]), RowAt.on Hx.out (al1_b w zEf), I.RowR.on Hi.out (al1_b w zEf), RowAt.on Hy.out (al1_b w zEf), Hs.out.on (al1_b w zEf), Ha.out.on (al1_b w zEf), Hn.out, bx.on (al1_b w zEf), by_.on (al1_b w zEf), VB.new hSw⟩
      · rintro f a w hf hSw ⟨vx, vy, vz, gx, kq, gy, gs, cs, ga, ca, rfl, Hx, Hi, Hy, Hs, Ha, Hn, bx, by_, bz⟩
        obtain ⟨f2, rfl⟩ : ∃ f2, f = f2 + 3 := ⟨f - 3, by omega⟩
        obtain ⟨b1, rfl, hz1, l1⟩ := bx rfl
        obtain ⟨b2, rfl, hz2, l2⟩ := by_ rfl
        obtain ⟨b3, rfl, hz3, l3⟩ := bz rfl
        have kz1 := row2_cells hz1
        have kz2 := row1_cells hz2
        have kz3 := row4_cells hz3
        have m12 := row_ne hz1 hz2 (by intro e; cases e)
        have m13 := row_ne hz1 hz3 (by intro e; cases e)
        have m23 := row_ne hz2 hz3 (by intro e; cases e)
        have m21 := m12.symm
        have m31 := m13.symm
        have m32 := m23.symm
        rw [HA0.out]
        simp only [Act.put, List.setIfInBounds_toArray, List.set_cons_zero, List.set_cons_succ]
        refine wpAnyH_ready (rs := [17]) (by kernel_rfl) (by simp) ?_
        refine AllReadyH.cons rfl (fun K hK => ?_) AllReadyH.nil
        go_simp
        refine hK.out _ _ ?_ (fun hHeld2 => ?_)
        · exact (Below.setCell (Below.setCell hSw l1 _) l1 _)
        have hT1 := hHeld2
        clear hHeld2 hK K
        refine wpAnyH_ready (rs := [18]) (by kernel_rfl) (by simp) ?_
        refine AllReadyH.cons rfl (fun K hK => ?_) AllReadyH.nil
        go_simp
        refine hK.out _ _ ?_ (fun hHeld2 => ?_)
        · exact (Below.setCell hT1 l2 _)
        have hT2 := hHeld2
        clear hHeld2 hK K
        refine wpAnyH_ready (rs := [19]) (by kernel_rfl) (by simp) ?_
        refine AllReadyH.cons rfl (fun K hK => ?_) AllReadyH.nil
        go_simp
        refine hK.out _ _ ?_ (fun hHeld2 => ?_)
        · exact (Below.setCell (Below.setCell (Below.setCell (Below.setCell hT2 l3 _) l3 _) l3 _) l3 _)
        have hT3 := hHeld2
        clear hHeld2 hK K
        refine wpAnyH_done (by kernel_rfl) ?_ _
        (try go_wp2_with fail)
        go_meet
        refine ⟨b1, b2, b3, gs, cs, ga, ca, rfl, rfl, rfl, hid ?_⟩
        with_reducible exact out_stores (R := R) hz1 hz2 hz3 Hs.out Ha.out Hn.out l1 l2 l3 hSw
  case rest =>
  rename World => w3
  obtain ⟨b1_3, b2_3, b3_3, gs3, cs3, ga3, ca3, rfl, rfl, rfl, HO3⟩ := hcut
  have N_18 : Hid ((w2).heap.size ≤ (w3).heap.size) := (HO3.out.bel).size
  have FW_19 : Hid (Below w.heap.size w (w3)) := bel_on (Nat.le_refl _) FW_14.out (HO3.out.bel)
  have FC_20 : Hid ((w3).heap[w.heap.size]? = some (.cells #[.int .i64 pc, .slice a n cap] 24)) := row_on FC_15.out (HO3.out.bel)
  have FR_21 : Hid ((w3).heap[w.heap.size + 1]? = some (.cells #[.slice qa m ca] 33)) := row_on FR_16.out (HO3.out.bel)
  have FG_22 : Hid ((w3).heap[w.heap.size + 1 + 1]? = some (.cells #[.int .i64 f, .int .i64 s] 35)) := row_on FG_17.out (HO3.out.bel)
  clear FW_14 FC_15 FR_16 FG_17
  have FP3_23 : Hid ((w3).heap[b1_3]? = some (.cells #[.int .i64 R.pc, .slice (some ⟨gs3, 0, none⟩) N cs3] 27)) := HO3.out.1
  have FQ3_24 : Hid ((w3).heap[b2_3]? = some (.cells #[.slice (some ⟨ga3, 0, none⟩) m ca3] 38)) := HO3.out.2.1
  have FE3_25 : Hid ((w3).heap[b3_3]? = some (.cells #[.int .i64 R.k, .int .i64 R.po, .int .i64 R.nu, .int .i64 R.tr] 40)) := HO3.out.2.2.1
  have FS3_26 : Hid (OwnN (w3) w2.heap.size gs3 N cs3 R.st) := HO3.out.2.2.2.1
  have FA3_27 : Hid (OwnN (w3) w2.heap.size ga3 m ca3 R.ce) := HO3.out.2.2.2.2.1
  have N_28 : Hid (gs3 ≠ ga3 ∧ gs3 ≠ b1_3 ∧ gs3 ≠ b2_3 ∧ gs3 ≠ b3_3 ∧ ga3 ≠ b1_3 ∧ ga3 ≠ b2_3 ∧ ga3 ≠ b3_3) := ⟨HO3.out.2.2.2.2.2.1, own_ne HO3.out.2.2.2.1 HO3.out.1 (by decide), own_ne HO3.out.2.2.2.1 HO3.out.2.1 (by decide), own_ne HO3.out.2.2.2.1 HO3.out.2.2.1 (by decide), own_ne HO3.out.2.2.2.2.1 HO3.out.1 (by decide), own_ne HO3.out.2.2.2.2.1 HO3.out.2.1 (by decide), own_ne HO3.out.2.2.2.2.1 HO3.out.2.2.1 (by decide)⟩
  have N_29 : Hid (w2.heap.size ≤ b1_3 ∧ w2.heap.size ≤ b2_3 ∧ w2.heap.size ≤ b3_3 ∧ w2.heap.size ≤ gs3 ∧ w2.heap.size ≤ ga3) := ⟨HO3.out.2.2.2.2.2.2.1, HO3.out.2.2.2.2.2.2.2.1, HO3.out.2.2.2.2.2.2.2.2.1, HO3.out.2.2.2.1.ge, HO3.out.2.2.2.2.1.ge⟩
  have N_30 : Hid (b1_3 < w3.heap.size ∧ b2_3 < w3.heap.size ∧ b3_3 < w3.heap.size ∧ gs3 < w3.heap.size ∧ ga3 < w3.heap.size) := ⟨row_lt HO3.out.1, row_lt HO3.out.2.1, row_lt HO3.out.2.2.1, HO3.out.2.2.2.1.lt, HO3.out.2.2.2.2.1.lt⟩
  clear HO3
  clear Q20 Q21 Q22 Q23 Q24 HS2 HI2 HA2
  have kC := row2_cells FC_20.out
  go_wp2_with fail
  clear kC
  refine (toC a pc st n cap HL.out hn _ (HR.out.keep FW_19.out (Nat.le_refl _))).mono ?_
  rintro e w4 ⟨g4, rfl, hg4, hrow4, hb4⟩
  have N_31 : Hid ((w3).heap.size ≤ (w4).heap.size) := (hb4).size
  have FW_32 : Hid (Below w.heap.size w (w4)) := bel_on (Nat.le_refl _) FW_19.out (hb4)
  have FC_33 : Hid ((w4).heap[w.heap.size]? = some (.cells #[.int .i64 pc, .slice a n cap] 24)) := row_on FC_20.out (hb4)
  have FR_34 : Hid ((w4).heap[w.heap.size + 1]? = some (.cells #[.slice qa m ca] 33)) := row_on FR_21.out (hb4)
  have FG_35 : Hid ((w4).heap[w.heap.size + 1 + 1]? = some (.cells #[.int .i64 f, .int .i64 s] 35)) := row_on FG_22.out (hb4)
  have FP3_36 : Hid ((w4).heap[b1_3]? = some (.cells #[.int .i64 R.pc, .slice (some ⟨gs3, 0, none⟩) N cs3] 27)) := row_on FP3_23.out (hb4)
  have FQ3_37 : Hid ((w4).heap[b2_3]? = some (.cells #[.slice (some ⟨ga3, 0, none⟩) m ca3] 38)) := row_on FQ3_24.out (hb4)
  have FE3_38 : Hid ((w4).heap[b3_3]? = some (.cells #[.int .i64 R.k, .int .i64 R.po, .int .i64 R.nu, .int .i64 R.tr] 40)) := row_on FE3_25.out (hb4)
  have FS3_39 : Hid (OwnN (w4) w2.heap.size gs3 N cs3 R.st) := FS3_26.out.on (hb4)
  have FA3_40 : Hid (OwnN (w4) w2.heap.size ga3 m ca3 R.ce) := FA3_27.out.on (hb4)
  clear FW_19 FC_20 FR_21 FG_22 FP3_23 FQ3_24 FE3_25 FS3_26 FA3_27
  have N_41 : Hid ((w3).heap.size ≤ g4 ∧ g4 < w4.heap.size) := ⟨hg4, hrow4.lt⟩
  have FX_42 : Hid (RowAt (w4) g4 st) := hrow4
  clear hg4 hrow4 hb4
  have N_43 : Hid ((w4).heap.size ≤ (w4.alloc (.cells #[.int .i64 pc, .slice (some ⟨g4, 0, none⟩) n n] 27)).heap.size) := ((Below.refl (w4).heap.size (w4)).alloc (Nat.le_refl _) (.cells #[.int .i64 pc, .slice (some ⟨g4, 0, none⟩) n n] 27)).size
  have FW_44 : Hid (Below w.heap.size w (w4.alloc (.cells #[.int .i64 pc, .slice (some ⟨g4, 0, none⟩) n n] 27))) := bel_on (Nat.le_refl _) FW_32.out ((Below.refl (w4).heap.size (w4)).alloc (Nat.le_refl _) (.cells #[.int .i64 pc, .slice (some ⟨g4, 0, none⟩) n n] 27))
  have FC_45 : Hid ((w4.alloc (.cells #[.int .i64 pc, .slice (some ⟨g4, 0, none⟩) n n] 27)).heap[w.heap.size]? = some (.cells #[.int .i64 pc, .slice a n cap] 24)) := row_on FC_33.out ((Below.refl (w4).heap.size (w4)).alloc (Nat.le_refl _) (.cells #[.int .i64 pc, .slice (some ⟨g4, 0, none⟩) n n] 27))
  have FR_46 : Hid ((w4.alloc (.cells #[.int .i64 pc, .slice (some ⟨g4, 0, none⟩) n n] 27)).heap[w.heap.size + 1]? = some (.cells #[.slice qa m ca] 33)) := row_on FR_34.out ((Below.refl (w4).heap.size (w4)).alloc (Nat.le_refl _) (.cells #[.int .i64 pc, .slice (some ⟨g4, 0, none⟩) n n] 27))
  have FG_47 : Hid ((w4.alloc (.cells #[.int .i64 pc, .slice (some ⟨g4, 0, none⟩) n n] 27)).heap[w.heap.size + 1 + 1]? = some (.cells #[.int .i64 f, .int .i64 s] 35)) := row_on FG_35.out ((Below.refl (w4).heap.size (w4)).alloc (Nat.le_refl _) (.cells #[.int .i64 pc, .slice (some ⟨g4, 0, none⟩) n n] 27))
  have FP3_48 : Hid ((w4.alloc (.cells #[.int .i64 pc, .slice (some ⟨g4, 0, none⟩) n n] 27)).heap[b1_3]? = some (.cells #[.int .i64 R.pc, .slice (some ⟨gs3, 0, none⟩) N cs3] 27)) := row_on FP3_36.out ((Below.refl (w4).heap.size (w4)).alloc (Nat.le_refl _) (.cells #[.int .i64 pc, .slice (some ⟨g4, 0, none⟩) n n] 27))
  have FQ3_49 : Hid ((w4.alloc (.cells #[.int .i64 pc, .slice (some ⟨g4, 0, none⟩) n n] 27)).heap[b2_3]? = some (.cells #[.slice (some ⟨ga3, 0, none⟩) m ca3] 38)) := row_on FQ3_37.out ((Below.refl (w4).heap.size (w4)).alloc (Nat.le_refl _) (.cells #[.int .i64 pc, .slice (some ⟨g4, 0, none⟩) n n] 27))
  have FE3_50 : Hid ((w4.alloc (.cells #[.int .i64 pc, .slice (some ⟨g4, 0, none⟩) n n] 27)).heap[b3_3]? = some (.cells #[.int .i64 R.k, .int .i64 R.po, .int .i64 R.nu, .int .i64 R.tr] 40)) := row_on FE3_38.out ((Below.refl (w4).heap.size (w4)).alloc (Nat.le_refl _) (.cells #[.int .i64 pc, .slice (some ⟨g4, 0, none⟩) n n] 27))
  have FS3_51 : Hid (OwnN (w4.alloc (.cells #[.int .i64 pc, .slice (some ⟨g4, 0, none⟩) n n] 27)) w2.heap.size gs3 N cs3 R.st) := FS3_39.out.on ((Below.refl (w4).heap.size (w4)).alloc (Nat.le_refl _) (.cells #[.int .i64 pc, .slice (some ⟨g4, 0, none⟩) n n] 27))
  have FA3_52 : Hid (OwnN (w4.alloc (.cells #[.int .i64 pc, .slice (some ⟨g4, 0, none⟩) n n] 27)) w2.heap.size ga3 m ca3 R.ce) := FA3_40.out.on ((Below.refl (w4).heap.size (w4)).alloc (Nat.le_refl _) (.cells #[.int .i64 pc, .slice (some ⟨g4, 0, none⟩) n n] 27))
  have FX_53 : Hid (RowAt (w4.alloc (.cells #[.int .i64 pc, .slice (some ⟨g4, 0, none⟩) n n] 27)) g4 st) := RowAt.on FX_42.out ((Below.refl (w4).heap.size (w4)).alloc (Nat.le_refl _) (.cells #[.int .i64 pc, .slice (some ⟨g4, 0, none⟩) n n] 27))
  clear FW_32 FC_33 FR_34 FG_35 FP3_36 FQ3_37 FE3_38 FS3_39 FA3_40 FX_42
  have N_54 : Hid (w4.heap.size < (w4.alloc (.cells #[.int .i64 pc, .slice (some ⟨g4, 0, none⟩) n n] 27)).heap.size) := by simp [Hid]
  have FB_55 : Hid ((w4.alloc (.cells #[.int .i64 pc, .slice (some ⟨g4, 0, none⟩) n n] 27)).heap[w4.heap.size]? = some (.cells #[.int .i64 pc, .slice (some ⟨g4, 0, none⟩) n n] 27)) := heap_new w4 _
  go_wp2_with fail
  refine (I.toRs qc rl nc cc HLC.out hnc _ (HRC.out.keep FW_44.out (Nat.le_refl _))).mono ?_
  rintro e w5 ⟨rfl, hrow5, hb5⟩
  obtain ⟨g5, hgg5⟩ : ∃ k, (w4.alloc (.cells #[.int .i64 pc, .slice (some ⟨g4, 0, none⟩) n n] 27)).heap.size = k := ⟨_, rfl⟩
  rw [hgg5] at hrow5 ⊢
  have N_56 : Hid ((w4.alloc (.cells #[.int .i64 pc, .slice (some ⟨g4, 0, none⟩) n n] 27)).heap.size ≤ (w5).heap.size) := (hb5).size
  have FW_57 : Hid (Below w.heap.size w (w5)) := bel_on (Nat.le_refl _) FW_44.out (hb5)
  have FC_58 : Hid ((w5).heap[w.heap.size]? = some (.cells #[.int .i64 pc, .slice a n cap] 24)) := row_on FC_45.out (hb5)
  have FR_59 : Hid ((w5).heap[w.heap.size + 1]? = some (.cells #[.slice qa m ca] 33)) := row_on FR_46.out (hb5)
  have FG_60 : Hid ((w5).heap[w.heap.size + 1 + 1]? = some (.cells #[.int .i64 f, .int .i64 s] 35)) := row_on FG_47.out (hb5)
  have FP3_61 : Hid ((w5).heap[b1_3]? = some (.cells #[.int .i64 R.pc, .slice (some ⟨gs3, 0, none⟩) N cs3] 27)) := row_on FP3_48.out (hb5)
  have FQ3_62 : Hid ((w5).heap[b2_3]? = some (.cells #[.slice (some ⟨ga3, 0, none⟩) m ca3] 38)) := row_on FQ3_49.out (hb5)
  have FE3_63 : Hid ((w5).heap[b3_3]? = some (.cells #[.int .i64 R.k, .int .i64 R.po, .int .i64 R.nu, .int .i64 R.tr] 40)) := row_on FE3_50.out (hb5)
  have FS3_64 : Hid (OwnN (w5) w2.heap.size gs3 N cs3 R.st) := FS3_51.out.on (hb5)
  have FA3_65 : Hid (OwnN (w5) w2.heap.size ga3 m ca3 R.ce) := FA3_52.out.on (hb5)
  have FX_66 : Hid (RowAt (w5) g4 st) := RowAt.on FX_53.out (hb5)
  have FB_67 : Hid ((w5).heap[w4.heap.size]? = some (.cells #[.int .i64 pc, .slice (some ⟨g4, 0, none⟩) n n] 27)) := row_on FB_55.out (hb5)
  clear FW_44 FC_45 FR_46 FG_47 FP3_48 FQ3_49 FE3_50 FS3_51 FA3_52 FX_53 FB_55
  have N_68 : Hid ((w4.alloc (.cells #[.int .i64 pc, .slice (some ⟨g4, 0, none⟩) n n] 27)).heap.size = g5 ∧ g5 < w5.heap.size) := ⟨hgg5, hrow5.lt⟩
  have FI_69 : Hid (I.RowR (w5) g5 rl) := hrow5
  clear hgg5 hrow5 hb5
  have kR := row1_cells FR_59.out
  go_wp2_with fail
  clear kR
  refine (toA qa ce m ca HLA.out hm _ (HRA.out.keep FW_57.out (Nat.le_refl _))).mono ?_
  rintro e w6 ⟨g6, rfl, hg6, hrow6, hb6⟩
  have N_70 : Hid ((w5).heap.size ≤ (w6).heap.size) := (hb6).size
  have FW_71 : Hid (Below w.heap.size w (w6)) := bel_on (Nat.le_refl _) FW_57.out (hb6)
  have FC_72 : Hid ((w6).heap[w.heap.size]? = some (.cells #[.int .i64 pc, .slice a n cap] 24)) := row_on FC_58.out (hb6)
  have FR_73 : Hid ((w6).heap[w.heap.size + 1]? = some (.cells #[.slice qa m ca] 33)) := row_on FR_59.out (hb6)
  have FG_74 : Hid ((w6).heap[w.heap.size + 1 + 1]? = some (.cells #[.int .i64 f, .int .i64 s] 35)) := row_on FG_60.out (hb6)
  have FP3_75 : Hid ((w6).heap[b1_3]? = some (.cells #[.int .i64 R.pc, .slice (some ⟨gs3, 0, none⟩) N cs3] 27)) := row_on FP3_61.out (hb6)
  have FQ3_76 : Hid ((w6).heap[b2_3]? = some (.cells #[.slice (some ⟨ga3, 0, none⟩) m ca3] 38)) := row_on FQ3_62.out (hb6)
  have FE3_77 : Hid ((w6).heap[b3_3]? = some (.cells #[.int .i64 R.k, .int .i64 R.po, .int .i64 R.nu, .int .i64 R.tr] 40)) := row_on FE3_63.out (hb6)
  have FS3_78 : Hid (OwnN (w6) w2.heap.size gs3 N cs3 R.st) := FS3_64.out.on (hb6)
  have FA3_79 : Hid (OwnN (w6) w2.heap.size ga3 m ca3 R.ce) := FA3_65.out.on (hb6)
  have FX_80 : Hid (RowAt (w6) g4 st) := RowAt.on FX_66.out (hb6)
  have FB_81 : Hid ((w6).heap[w4.heap.size]? = some (.cells #[.int .i64 pc, .slice (some ⟨g4, 0, none⟩) n n] 27)) := row_on FB_67.out (hb6)
  have FI_82 : Hid (I.RowR (w6) g5 rl) := I.RowR.on FI_69.out (hb6)
  clear FW_57 FC_58 FR_59 FG_60 FP3_61 FQ3_62 FE3_63 FS3_64 FA3_65 FX_66 FB_67 FI_69
  have N_83 : Hid ((w5).heap.size ≤ g6 ∧ g6 < w6.heap.size) := ⟨hg6, hrow6.lt⟩
  have FY_84 : Hid (RowAt (w6) g6 ce) := hrow6
  clear hg6 hrow6 hb6
  have N_85 : Hid ((w6).heap.size ≤ (w6.alloc (.cells #[.slice (some ⟨g6, 0, none⟩) m m] 38)).heap.size) := ((Below.refl (w6).heap.size (w6)).alloc (Nat.le_refl _) (.cells #[.slice (some ⟨g6, 0, none⟩) m m] 38)).size
  have FW_86 : Hid (Below w.heap.size w (w6.alloc (.cells #[.slice (some ⟨g6, 0, none⟩) m m] 38))) := bel_on (Nat.le_refl _) FW_71.out ((Below.refl (w6).heap.size (w6)).alloc (Nat.le_refl _) (.cells #[.slice (some ⟨g6, 0, none⟩) m m] 38))
  have FC_87 : Hid ((w6.alloc (.cells #[.slice (some ⟨g6, 0, none⟩) m m] 38)).heap[w.heap.size]? = some (.cells #[.int .i64 pc, .slice a n cap] 24)) := row_on FC_72.out ((Below.refl (w6).heap.size (w6)).alloc (Nat.le_refl _) (.cells #[.slice (some ⟨g6, 0, none⟩) m m] 38))
  have FR_88 : Hid ((w6.alloc (.cells #[.slice (some ⟨g6, 0, none⟩) m m] 38)).heap[w.heap.size + 1]? = some (.cells #[.slice qa m ca] 33)) := row_on FR_73.out ((Below.refl (w6).heap.size (w6)).alloc (Nat.le_refl _) (.cells #[.slice (some ⟨g6, 0, none⟩) m m] 38))
  have FG_89 : Hid ((w6.alloc (.cells #[.slice (some ⟨g6, 0, none⟩) m m] 38)).heap[w.heap.size + 1 + 1]? = some (.cells #[.int .i64 f, .int .i64 s] 35)) := row_on FG_74.out ((Below.refl (w6).heap.size (w6)).alloc (Nat.le_refl _) (.cells #[.slice (some ⟨g6, 0, none⟩) m m] 38))
  have FP3_90 : Hid ((w6.alloc (.cells #[.slice (some ⟨g6, 0, none⟩) m m] 38)).heap[b1_3]? = some (.cells #[.int .i64 R.pc, .slice (some ⟨gs3, 0, none⟩) N cs3] 27)) := row_on FP3_75.out ((Below.refl (w6).heap.size (w6)).alloc (Nat.le_refl _) (.cells #[.slice (some ⟨g6, 0, none⟩) m m] 38))
  have FQ3_91 : Hid ((w6.alloc (.cells #[.slice (some ⟨g6, 0, none⟩) m m] 38)).heap[b2_3]? = some (.cells #[.slice (some ⟨ga3, 0, none⟩) m ca3] 38)) := row_on FQ3_76.out ((Below.refl (w6).heap.size (w6)).alloc (Nat.le_refl _) (.cells #[.slice (some ⟨g6, 0, none⟩) m m] 38))
  have FE3_92 : Hid ((w6.alloc (.cells #[.slice (some ⟨g6, 0, none⟩) m m] 38)).heap[b3_3]? = some (.cells #[.int .i64 R.k, .int .i64 R.po, .int .i64 R.nu, .int .i64 R.tr] 40)) := row_on FE3_77.out ((Below.refl (w6).heap.size (w6)).alloc (Nat.le_refl _) (.cells #[.slice (some ⟨g6, 0, none⟩) m m] 38))
  have FS3_93 : Hid (OwnN (w6.alloc (.cells #[.slice (some ⟨g6, 0, none⟩) m m] 38)) w2.heap.size gs3 N cs3 R.st) := FS3_78.out.on ((Below.refl (w6).heap.size (w6)).alloc (Nat.le_refl _) (.cells #[.slice (some ⟨g6, 0, none⟩) m m] 38))
  have FA3_94 : Hid (OwnN (w6.alloc (.cells #[.slice (some ⟨g6, 0, none⟩) m m] 38)) w2.heap.size ga3 m ca3 R.ce) := FA3_79.out.on ((Below.refl (w6).heap.size (w6)).alloc (Nat.le_refl _) (.cells #[.slice (some ⟨g6, 0, none⟩) m m] 38))
  have FX_95 : Hid (RowAt (w6.alloc (.cells #[.slice (some ⟨g6, 0, none⟩) m m] 38)) g4 st) := RowAt.on FX_80.out ((Below.refl (w6).heap.size (w6)).alloc (Nat.le_refl _) (.cells #[.slice (some ⟨g6, 0, none⟩) m m] 38))
  have FB_96 : Hid ((w6.alloc (.cells #[.slice (some ⟨g6, 0, none⟩) m m] 38)).heap[w4.heap.size]? = some (.cells #[.int .i64 pc, .slice (some ⟨g4, 0, none⟩) n n] 27)) := row_on FB_81.out ((Below.refl (w6).heap.size (w6)).alloc (Nat.le_refl _) (.cells #[.slice (some ⟨g6, 0, none⟩) m m] 38))
  have FI_97 : Hid (I.RowR (w6.alloc (.cells #[.slice (some ⟨g6, 0, none⟩) m m] 38)) g5 rl) := I.RowR.on FI_82.out ((Below.refl (w6).heap.size (w6)).alloc (Nat.le_refl _) (.cells #[.slice (some ⟨g6, 0, none⟩) m m] 38))
  have FY_98 : Hid (RowAt (w6.alloc (.cells #[.slice (some ⟨g6, 0, none⟩) m m] 38)) g6 ce) := RowAt.on FY_84.out ((Below.refl (w6).heap.size (w6)).alloc (Nat.le_refl _) (.cells #[.slice (some ⟨g6, 0, none⟩) m m] 38))
  clear FW_71 FC_72 FR_73 FG_74 FP3_75 FQ3_76 FE3_77 FS3_78 FA3_79 FX_80 FB_81 FI_82 FY_84
  have N_99 : Hid (w6.heap.size < (w6.alloc (.cells #[.slice (some ⟨g6, 0, none⟩) m m] 38)).heap.size) := by simp [Hid]
  have FD_100 : Hid ((w6.alloc (.cells #[.slice (some ⟨g6, 0, none⟩) m m] 38)).heap[w6.heap.size]? = some (.cells #[.slice (some ⟨g6, 0, none⟩) m m] 38)) := heap_new w6 _
  go_wp2_with fail
  generalize hW7 : w6.alloc (.cells #[.slice (some ⟨g6, 0, none⟩) m m] 38) = W7 at *
  clear hW7
  have Q70 : Hid (W7.cell? ⟨w4.heap.size, 0, none⟩ = some (.int .i64 pc)) := (row2_cells FB_96.out).1
  have Q71 : Hid (W7.cell? ⟨w4.heap.size, 1, none⟩ = some (.slice (some ⟨g4, 0, none⟩) n n)) := (row2_cells FB_96.out).2.1
  have Q72 : Hid (W7.cell? ⟨w6.heap.size, 0, none⟩ = some (.slice (some ⟨g6, 0, none⟩) m m)) := (row1_cells FD_100.out).1
  have Q73 : Hid (W7.cell? ⟨w.heap.size + 1 + 1, 0, none⟩ = some (.int .i64 f)) := (row2_cells FG_89.out).1
  have Q74 : Hid (W7.cell? ⟨w.heap.size + 1 + 1, 1, none⟩ = some (.int .i64 s)) := (row2_cells FG_89.out).2.1
  have HX7 : Hid (Rd W7 (some ⟨g4, 0, none⟩) st) := RowAt.rd FX_95.out
  have HI7 : Hid (I.RdR W7 (some ⟨g5, 0, none⟩) rl) := I.RowR.rd FI_97.out
  have HY7 : Hid (Rd W7 (some ⟨g6, 0, none⟩) ce) := RowAt.rd FY_98.out
  go_cut [18, 19, 20] (fun o1 o2 o3 wc => ∃ (b1 b2 b3 gs cs ga ca : Nat), o1 = .pointer (some ⟨b1, 0, none⟩) ∧ o2 = .pointer (some ⟨b2, 0, none⟩) ∧ o3 = .pointer (some ⟨b3, 0, none⟩) ∧ Hid (OutB W7 wc b1 b2 b3 gs cs ga ca m N R))
  case first =>
    refine wp_region_held_drew (S := fun w' => Below W7.heap.size W7 w') (by kernel_rfl) (Below.refl _ _).drew (fun hHeld => ?_)
    refine wpAnyH_take (i := 0) (v := ?_) rfl (by kernel_rfl) (by kernel_rfl) (by kernel_rfl) (fun _ _ _ h => h) (Or.inl ⟨by rfl, ?_⟩) (by assumption) ?_
    rotate_left
    · intro w hSw; (try dsimp only at hSw); have q0_ := cell_on Q70.out hSw; have q1_ := cell_on Q71.out hSw; have q2_ := cell_on Q72.out hSw; have q3_ := cell_on Q73.out hSw; have q4_ := cell_on Q74.out hSw; go_simp <;> with_reducible rfl
    simp only [Act.put, List.setIfInBounds_toArray, List.set_cons_zero, List.set_cons_succ, List.getElem_toArray, List.getElem_cons_zero]
    refine wpAnyH_take (i := 1) (v := ?_) rfl (by kernel_rfl) (by kernel_rfl) (by kernel_rfl) (fun _ _ _ h => h) (Or.inl ⟨by rfl, ?_⟩) (by assumption) ?_
    rotate_left
    · intro w hSw; (try dsimp only at hSw); have q0_ := cell_on Q70.out hSw; have q1_ := cell_on Q71.out hSw; have q2_ := cell_on Q72.out hSw; have q3_ := cell_on Q73.out hSw; have q4_ := cell_on Q74.out hSw; go_simp <;> with_reducible rfl
    simp only [Act.put, List.setIfInBounds_toArray, List.set_cons_zero, List.set_cons_succ, List.getElem_toArray, List.getElem_cons_zero, List.getElem_cons_succ]
    refine wpAnyH_take (i := 2) (v := ?_) rfl (by kernel_rfl) (by kernel_rfl) (by kernel_rfl) (fun _ _ _ h => h) (Or.inl ⟨by rfl, ?_⟩) (by assumption) ?_
    rotate_left
    · intro w hSw; (try dsimp only at hSw); have q0_ := cell_on Q70.out hSw; have q1_ := cell_on Q71.out hSw; have q2_ := cell_on Q72.out hSw; have q3_ := cell_on Q73.out hSw; have q4_ := cell_on Q74.out hSw; go_simp <;> with_reducible rfl
    simp only [Act.put, List.setIfInBounds_toArray, List.set_cons_zero, List.set_cons_succ, List.getElem_toArray, List.getElem_cons_zero, List.getElem_cons_succ]
    refine wpAnyH_take (i := 3) (v := ?_) rfl (by kernel_rfl) (by kernel_rfl) (by kernel_rfl) (fun _ _ _ h => h) (Or.inl ⟨by rfl, ?_⟩) (by assumption) ?_
    rotate_left
    · intro w hSw; (try dsimp only at hSw); have q0_ := cell_on Q70.out hSw; have q1_ := cell_on Q71.out hSw; have q2_ := cell_on Q72.out hSw; have q3_ := cell_on Q73.out hSw; have q4_ := cell_on Q74.out hSw; go_simp <;> with_reducible rfl
    simp only [Act.put, List.setIfInBounds_toArray, List.set_cons_zero, List.set_cons_succ, List.getElem_toArray, List.getElem_cons_zero, List.getElem_cons_succ]
    refine wpAnyH_take (i := 5) (v := ?_) rfl (by kernel_rfl) (by kernel_rfl) (by kernel_rfl) (fun _ _ _ h => h) (Or.inl ⟨by rfl, ?_⟩) (by assumption) ?_
    rotate_left
    · intro w hSw; (try dsimp only at hSw); have q0_ := cell_on Q70.out hSw; have q1_ := cell_on Q71.out hSw; have q2_ := cell_on Q72.out hSw; have q3_ := cell_on Q73.out hSw; have q4_ := cell_on Q74.out hSw; go_simp <;> with_reducible rfl
    simp only [Act.put, List.setIfInBounds_toArray, List.set_cons_zero, List.set_cons_succ, List.getElem_toArray, List.getElem_cons_zero, List.getElem_cons_succ]
    refine wpAnyH_named (fun a0 ha0 => ?_)
    have HA0 : Hid (a0 = _) := ha0
    clear ha0
    refine main_go (L := (fun x y z => #[true, true, true, true, false, true, false, false, false, false, false, x, y, z, false, false, false])) (St := (fun x y z a w => ∃ (vx vy vz : Value), a = (((a0.put (some 18) vx).put (some 19) vy).put (some 20) vz) ∧ VB W7 x vx w zCpu ∧ VB W7 y vy w zAr ∧ VB W7 z vz w zEf)) (K := 9) ?h (by kernel_rfl) (by decide) (by assumption) ⟨a0.tmps.getD 18 undef, a0.tmps.getD 19 undef, a0.tmps.getD 20 undef, (by simp only [put_self]), VB.no _ _ _ _, VB.no _ _ _ _, VB.no _ _ _ _⟩
    case h =>
      refine stage3 (i1 := 11) (i2 := 12) (i3 := 13) (c := 4) (fun x y z => #[true, true, true, true, false, true, false, false, false, false, false, x, y, z, false, false, false]) (fun x y z => #[true, true, true, true, true, true, false, false, false, false, false, x, y, z, false, false, false]) (fun x y z a w => ∃ (vx vy vz : Value), a = (((a0.put (some 18) vx).put (some 19) vy).put (some 20) vz) ∧ VB W7 x vx w zCpu ∧ VB W7 y vy w zAr ∧ VB W7 z vz w zEf) (fun x y z a w => ∃ (vx vy vz : Value), a = ((((a0.put (some 67) (.agg #[.int .i64 f, .int .i64 s])).put (some 18) vx).put (some 19) vy).put (some 20) vz) ∧ VB W7 x vx w zCpu ∧ VB W7 y vy w zAr ∧ VB W7 z vz w zEf) 8 ?_ ?_ ?_ ?_ ?_ ?_ ?_ ?_ ?_ ?_ ?_
      · intro x y z i hi
        cases x <;> cases y <;> cases z
        · have e_ := mem_kernel (rs := [4, 11, 12, 13]) (by kernel_rfl) hi; (first | (simp at e_ ⊢; done) | (simp at e_ ⊢; omega))
        · have e_ := mem_kernel (rs := [4, 11, 12]) (by kernel_rfl) hi; (first | (simp at e_ ⊢; done) | (simp at e_ ⊢; omega))
        · have e_ := mem_kernel (rs := [4, 11, 13]) (by kernel_rfl) hi; (first | (simp at e_ ⊢; done) | (simp at e_ ⊢; omega))
        · have e_ := mem_kernel (rs := [4, 11]) (by kernel_rfl) hi; (first | (simp at e_ ⊢; done) | (simp at e_ ⊢; omega))
        · have e_ := mem_kernel (rs := [4, 12, 13]) (by kernel_rfl) hi; (first | (simp at e_ ⊢; done) | (simp at e_ ⊢; omega))
        · have e_ := mem_kernel (rs := [4, 12]) (by kernel_rfl) hi; (first | (simp at e_ ⊢; done) | (simp at e_ ⊢; omega))
        · have e_ := mem_kernel (rs := [4, 13]) (by kernel_rfl) hi; (first | (simp at e_ ⊢; done) | (simp at e_ ⊢; omega))
        · have e_ := mem_kernel (rs := [4]) (by kernel_rfl) hi; (first | (simp at e_ ⊢; done) | (simp at e_ ⊢; omega))
      · intro x y z
        cases x <;> cases y <;> cases z
        · exact ne_kernel (rs := [4, 11, 12, 13]) (by kernel_rfl) (by simp)
        · exact ne_kernel (rs := [4, 11, 12]) (by kernel_rfl) (by simp)
        · exact ne_kernel (rs := [4, 11, 13]) (by kernel_rfl) (by simp)
        · exact ne_kernel (rs := [4, 11]) (by kernel_rfl) (by simp)
        · exact ne_kernel (rs := [4, 12, 13]) (by kernel_rfl) (by simp)
        · exact ne_kernel (rs := [4, 12]) (by kernel_rfl) (by simp)
        · exact ne_kernel (rs := [4, 13]) (by kernel_rfl) (by simp)
        · exact ne_kernel (rs := [4]) (by kernel_rfl) (by simp)
      · intro x y; cases x <;> cases y <;> kernel_rfl
      · intro x y; cases x <;> cases y <;> kernel_rfl
      · intro x y; cases x <;> cases y <;> kernel_rfl
      · intro x y z; cases x <;> cases y <;> cases z <;> kernel_rfl
      · rintro y z a w hSw ⟨vx, vy, vz, rfl, bx, by_, bz⟩
        refine wpOp_step (i := 11) rfl (fun K hK => ?_)
        have HK : Shut _ := hK
        clear hK
        rw [HA0.out]
        simp only [Act.put, List.setIfInBounds_toArray, List.set_cons_zero, List.set_cons_succ]
        go_simp
        exact HK.out _ _ ⟨bel_on (Nat.le_refl _) hSw (al1_b w zCpu), _, vy, vz, (by rw [HA0.out]; simp only [Act.put, List.setIfInBounds_toArray, List.set_cons_zero, List.set_cons_succ]), VB.new hSw, by_.on (al1_b w zCpu), bz.on (al1_b w zCpu)⟩
      · rintro x z a w hSw ⟨vx, vy, vz, rfl, bx, by_, bz⟩
        refine wpOp_step (i := 12) rfl (fun K hK => ?_)
        have HK : Shut _ := hK
        clear hK
        rw [HA0.out]
        simp only [Act.put, List.setIfInBounds_toArray, List.set_cons_zero, List.set_cons_succ]
        go_simp
        exact HK.out _ _ ⟨bel_on (Nat.le_refl _) hSw (al1_b w zAr), vx, _, vz, (by rw [HA0.out]; simp only [Act.put, List.setIfInBounds_toArray, List.set_cons_zero, List.set_cons_succ]), bx.on (al1_b w zAr), VB.new hSw, bz.on (al1_b w zAr)⟩
      · rintro x y a w hSw ⟨vx, vy, vz, rfl, bx, by_, bz⟩
        refine wpOp_step (i := 13) rfl (fun K hK => ?_)
        have HK : Shut _ := hK
        clear hK
        rw [HA0.out]
        simp only [Act.put, List.setIfInBounds_toArray, List.set_cons_zero, List.set_cons_succ]
        go_simp
        exact HK.out _ _ ⟨bel_on (Nat.le_refl _) hSw (al1_b w zEf), vx, vy, _, (by rw [HA0.out]; simp only [Act.put, List.setIfInBounds_toArray, List.set_cons_zero, List.set_cons_succ]), bx.on (al1_b w zEf), by_.on (al1_b w zEf), VB.new hSw⟩
      · rintro x y z a w hSw ⟨vx, vy, vz, rfl, bx, by_, bz⟩
        refine wpOp_step (i := 4) rfl (fun K hK => ?_)
        have HK : Shut _ := hK
        clear hK
        rw [HA0.out]
        simp only [Act.put, List.setIfInBounds_toArray, List.set_cons_zero, List.set_cons_succ]
        go_simp
        go_at_call 21
        refine (toR f s _).mono ?_
        rintro e w9 ⟨rfl, hb9⟩
        go_wp2_with fail
        exact HK.out _ _ ⟨bel_on (Nat.le_refl _) hSw (hb9), vx, vy, vz, (by rw [HA0.out]; simp only [Act.put, List.setIfInBounds_toArray, List.set_cons_zero, List.set_cons_succ]), bx.on (hb9), by_.on (hb9), bz.on (hb9)⟩
      refine stage3 (i1 := 11) (i2 := 12) (i3 := 13) (c := 6) (fun x y z => #[true, true, true, true, true, true, false, false, false, false, false, x, y, z, false, false, false]) (fun x y z => #[true, true, true, true, true, true, true, false, false, false, false, x, y, z, false, false, false]) (fun x y z a w => ∃ (vx vy vz : Value), a = ((((a0.put (some 67) (.agg #[.int .i64 f, .int .i64 s])).put (some 18) vx).put (some 19) vy).put (some 20) vz) ∧ VB W7 x vx w zCpu ∧ VB W7 y vy w zAr ∧ VB W7 z vz w zEf) (fun x y z a w => ∃ (vx vy vz : Value) (gs : Nat) (cs : Nat) (ga : Nat) (ca : Nat), a = (((((a0.put (some 67) (.agg #[.int .i64 f, .int .i64 s])).put (some 69) (.tuple #[.agg #[.int .i64 (R : Res).pc, .slice (some ⟨gs, 0, none⟩) N cs], .agg #[.slice (some ⟨ga, 0, none⟩) m ca], .agg #[.int .i64 (R : Res).k, .int .i64 (R : Res).po, .int .i64 (R : Res).nu, .int .i64 (R : Res).tr]])).put (some 18) vx).put (some 19) vy).put (some 20) vz) ∧ Hid (OwnN w W7.heap.size gs N cs (R : Res).st) ∧ Hid (OwnN w W7.heap.size ga m ca (R : Res).ce) ∧ Hid (gs ≠ ga) ∧ VB W7 x vx w zCpu ∧ VB W7 y vy w zAr ∧ VB W7 z vz w zEf) 7 ?_ ?_ ?_ ?_ ?_ ?_ ?_ ?_ ?_ ?_ ?_
      · intro x y z i hi
        cases x <;> cases y <;> cases z
        · have e_ := mem_kernel (rs := [6, 11, 12, 13]) (by kernel_rfl) hi; (first | (simp at e_ ⊢; done) | (simp at e_ ⊢; omega))
        · have e_ := mem_kernel (rs := [6, 11, 12]) (by kernel_rfl) hi; (first | (simp at e_ ⊢; done) | (simp at e_ ⊢; omega))
        · have e_ := mem_kernel (rs := [6, 11, 13]) (by kernel_rfl) hi; (first | (simp at e_ ⊢; done) | (simp at e_ ⊢; omega))
        · have e_ := mem_kernel (rs := [6, 11]) (by kernel_rfl) hi; (first | (simp at e_ ⊢; done) | (simp at e_ ⊢; omega))
        · have e_ := mem_kernel (rs := [6, 12, 13]) (by kernel_rfl) hi; (first | (simp at e_ ⊢; done) | (simp at e_ ⊢; omega))
        · have e_ := mem_kernel (rs := [6, 12]) (by kernel_rfl) hi; (first | (simp at e_ ⊢; done) | (simp at e_ ⊢; omega))
        · have e_ := mem_kernel (rs := [6, 13]) (by kernel_rfl) hi; (first | (simp at e_ ⊢; done) | (simp at e_ ⊢; omega))
        · have e_ := mem_kernel (rs := [6]) (by kernel_rfl) hi; (first | (simp at e_ ⊢; done) | (simp at e_ ⊢; omega))
      · intro x y z
        cases x <;> cases y <;> cases z
        · exact ne_kernel (rs := [6, 11, 12, 13]) (by kernel_rfl) (by simp)
        · exact ne_kernel (rs := [6, 11, 12]) (by kernel_rfl) (by simp)
        · exact ne_kernel (rs := [6, 11, 13]) (by kernel_rfl) (by simp)
        · exact ne_kernel (rs := [6, 11]) (by kernel_rfl) (by simp)
        · exact ne_kernel (rs := [6, 12, 13]) (by kernel_rfl) (by simp)
        · exact ne_kernel (rs := [6, 12]) (by kernel_rfl) (by simp)
        · exact ne_kernel (rs := [6, 13]) (by kernel_rfl) (by simp)
        · exact ne_kernel (rs := [6]) (by kernel_rfl) (by simp)
      · intro x y; cases x <;> cases y <;> kernel_rfl
      · intro x y; cases x <;> cases y <;> kernel_rfl
      · intro x y; cases x <;> cases y <;> kernel_rfl
      · intro x y z; cases x <;> cases y <;> cases z <;> kernel_rfl
      · rintro y z a w hSw ⟨vx, vy, vz, rfl, bx, by_, bz⟩
        refine wpOp_step (i := 11) rfl (fun K hK => ?_)
        have HK : Shut _ := hK
        clear hK
        rw [HA0.out]
        simp only [Act.put, List.setIfInBounds_toArray, List.set_cons_zero, List.set_cons_succ]
        go_simp
        exact HK.out _ _ ⟨bel_on (Nat.le_refl _) hSw (al1_b w zCpu), _, vy, vz, (by rw [HA0.out]; simp only [Act.put, List.setIfInBounds_toArray, List.set_cons_zero, List.set_cons_succ]), VB.new hSw, by_.on (al1_b w zCpu), bz.on (al1_b w zCpu)⟩
      · rintro x z a w hSw ⟨vx, vy, vz, rfl, bx, by_, bz⟩
        refine wpOp_step (i := 12) rfl (fun K hK => ?_)
        have HK : Shut _ := hK
        clear hK
        rw [HA0.out]
        simp only [Act.put, List.setIfInBounds_toArray, List.set_cons_zero, List.set_cons_succ]
        go_simp
        exact HK.out _ _ ⟨bel_on (Nat.le_refl _) hSw (al1_b w zAr), vx, _, vz, (by rw [HA0.out]; simp only [Act.put, List.setIfInBounds_toArray, List.set_cons_zero, List.set_cons_succ]), bx.on (al1_b w zAr), VB.new hSw, bz.on (al1_b w zAr)⟩
      · rintro x y a w hSw ⟨vx, vy, vz, rfl, bx, by_, bz⟩
        refine wpOp_step (i := 13) rfl (fun K hK => ?_)
        have HK : Shut _ := hK
        clear hK
        rw [HA0.out]
        simp only [Act.put, List.setIfInBounds_toArray, List.set_cons_zero, List.set_cons_succ]
        go_simp
        exact HK.out _ _ ⟨bel_on (Nat.le_refl _) hSw (al1_b w zEf), vx, vy, _, (by rw [HA0.out]; simp only [Act.put, List.setIfInBounds_toArray, List.set_cons_zero, List.set_cons_succ]), bx.on (al1_b w zEf), by_.on (al1_b w zEf), VB.new hSw⟩
      · rintro x y z a w hSw ⟨vx, vy, vz, rfl, bx, by_, bz⟩
        refine wpOp_step (i := 6) rfl (fun K hK => ?_)
        have HK : Shut _ := hK
        clear hK
        rw [HA0.out]
        simp only [Act.put, List.setIfInBounds_toArray, List.set_cons_zero, List.set_cons_succ]
        go_simp
        go_at_call 22
        refine (stepI (some ⟨g4, 0, none⟩) pc st n n (some ⟨g5, 0, none⟩) rl nc nc (some ⟨g6, 0, none⟩) ce m m f s t b R N HL.out hn HLC.out hnc HLA.out hm HB.out HRR.out HNN.out _ (HX7.out.on hSw) (HI7.out.on hSw) (HY7.out.on hSw)).mono ?_
        rintro e w9 ⟨gs, cs, ga, ca, rfl, hs9, ha9, hne9, hb9⟩
        go_wp2_with fail
        exact HK.out _ _ ⟨bel_on (Nat.le_refl _) hSw (hb9), vx, vy, vz, gs, cs, ga, ca, (by rw [HA0.out]; simp only [Act.put, List.setIfInBounds_toArray, List.set_cons_zero, List.set_cons_succ]), hs9.mono hSw.size, ha9.mono hSw.size, hne9, bx.on (hb9), by_.on (hb9), bz.on (hb9)⟩
      refine stageT (i := 7) rfl (by kernel_rfl) (fun x y z => #[true, true, true, true, true, true, true, false, false, false, false, x, y, z, false, false, false]) (fun x y z => #[true, true, true, true, true, true, true, true, false, false, false, x, y, z, false, false, false]) (fun x y z a w => ∃ (vx vy vz : Value) (gs : Nat) (cs : Nat) (ga : Nat) (ca : Nat), a = (((((a0.put (some 67) (.agg #[.int .i64 f, .int .i64 s])).put (some 69) (.tuple #[.agg #[.int .i64 (R : Res).pc, .slice (some ⟨gs, 0, none⟩) N cs], .agg #[.slice (some ⟨ga, 0, none⟩) m ca], .agg #[.int .i64 (R : Res).k, .int .i64 (R : Res).po, .int .i64 (R : Res).nu, .int .i64 (R : Res).tr]])).put (some 18) vx).put (some 19) vy).put (some 20) vz) ∧ Hid (OwnN w W7.heap.size gs N cs (R : Res).st) ∧ Hid (OwnN w W7.heap.size ga m ca (R : Res).ce) ∧ Hid (gs ≠ ga) ∧ VB W7 x vx w zCpu ∧ VB W7 y vy w zAr ∧ VB W7 z vz w zEf) (fun x y z a w => ∃ (vx vy vz : Value) (gs : Nat) (cs : Nat) (ga : Nat) (ca : Nat), a = ((((((a0.put (some 67) (.agg #[.int .i64 f, .int .i64 s])).put (some 69) (.tuple #[.agg #[.int .i64 (R : Res).pc, .slice (some ⟨gs, 0, none⟩) N cs], .agg #[.slice (some ⟨ga, 0, none⟩) m ca], .agg #[.int .i64 (R : Res).k, .int .i64 (R : Res).po, .int .i64 (R : Res).nu, .int .i64 (R : Res).tr]])).put (some 62) (.tuple #[.agg #[.int .i64 (R : Res).pc, .slice (some ⟨gs, 0, none⟩) N cs], .agg #[.slice (some ⟨ga, 0, none⟩) m ca], .agg #[.int .i64 (R : Res).k, .int .i64 (R : Res).po, .int .i64 (R : Res).nu, .int .i64 (R : Res).tr]])).put (some 18) vx).put (some 19) vy).put (some 20) vz) ∧ Hid (OwnN w W7.heap.size gs N cs (R : Res).st) ∧ Hid (OwnN w W7.heap.size ga m ca (R : Res).ce) ∧ Hid (gs ≠ ga) ∧ VB W7 x vx w zCpu ∧ VB W7 y vy w zAr ∧ VB W7 z vz w zEf) 6 ?_ ?_ ?_ ?_ ?_ ?_
      · intro x y z; cases x <;> cases y <;> cases z <;> kernel_rfl
      · intro x y z; cases x <;> cases y <;> cases z <;> kernel_rfl
      · intro x y z; cases x <;> cases y <;> cases z <;> kernel_rfl
      · exact fun _ _ _ _ h => h
      · rintro x y z a w hSw ⟨vx, vy, vz, gs, cs, ga, ca, rfl, Hs, Ha, Hn, bx, by_, bz⟩
        refine ⟨.tuple #[.agg #[.int .i64 (R : Res).pc, .slice (some ⟨gs, 0, none⟩) N cs], .agg #[.slice (some ⟨ga, 0, none⟩) m ca], .agg #[.int .i64 (R : Res).k, .int .i64 (R : Res).po, .int .i64 (R : Res).nu, .int .i64 (R : Res).tr]], Or.inl ⟨by rw [HA0.out]; rfl, ?_⟩, vx, vy, vz, gs, cs, ga, ca, (by rw [HA0.out]; simp only [Act.put, List.setIfInBounds_toArray, List.set_cons_zero, List.set_cons_succ, List.getElem_toArray, List.getElem_cons_zero, List.getElem_cons_succ]), Hs, Ha, Hn, bx, by_, bz⟩
        rw [HA0.out]
        simp only [Act.put, List.setIfInBounds_toArray, List.set_cons_zero, List.set_cons_succ]
        intro w hSw; go_simp <;> with_reducible rfl
      refine stageT (i := 8) rfl (by kernel_rfl) (fun x y z => #[true, true, true, true, true, true, true, true, false, false, false, x, y, z, false, false, false]) (fun x y z => #[true, true, true, true, true, true, true, true, true, false, false, x, y, z, false, false, false]) (fun x y z a w => ∃ (vx vy vz : Value) (gs : Nat) (cs : Nat) (ga : Nat) (ca : Nat), a = ((((((a0.put (some 67) (.agg #[.int .i64 f, .int .i64 s])).put (some 69) (.tuple #[.agg #[.int .i64 (R : Res).pc, .slice (some ⟨gs, 0, none⟩) N cs], .agg #[.slice (some ⟨ga, 0, none⟩) m ca], .agg #[.int .i64 (R : Res).k, .int .i64 (R : Res).po, .int .i64 (R : Res).nu, .int .i64 (R : Res).tr]])).put (some 62) (.tuple #[.agg #[.int .i64 (R : Res).pc, .slice (some ⟨gs, 0, none⟩) N cs], .agg #[.slice (some ⟨ga, 0, none⟩) m ca], .agg #[.int .i64 (R : Res).k, .int .i64 (R : Res).po, .int .i64 (R : Res).nu, .int .i64 (R : Res).tr]])).put (some 18) vx).put (some 19) vy).put (some 20) vz) ∧ Hid (OwnN w W7.heap.size gs N cs (R : Res).st) ∧ Hid (OwnN w W7.heap.size ga m ca (R : Res).ce) ∧ Hid (gs ≠ ga) ∧ VB W7 x vx w zCpu ∧ VB W7 y vy w zAr ∧ VB W7 z vz w zEf) (fun x y z a w => ∃ (vx vy vz : Value) (gs : Nat) (cs : Nat) (ga : Nat) (ca : Nat), a = (((((((a0.put (some 67) (.agg #[.int .i64 f, .int .i64 s])).put (some 69) (.tuple #[.agg #[.int .i64 (R : Res).pc, .slice (some ⟨gs, 0, none⟩) N cs], .agg #[.slice (some ⟨ga, 0, none⟩) m ca], .agg #[.int .i64 (R : Res).k, .int .i64 (R : Res).po, .int .i64 (R : Res).nu, .int .i64 (R : Res).tr]])).put (some 62) (.tuple #[.agg #[.int .i64 (R : Res).pc, .slice (some ⟨gs, 0, none⟩) N cs], .agg #[.slice (some ⟨ga, 0, none⟩) m ca], .agg #[.int .i64 (R : Res).k, .int .i64 (R : Res).po, .int .i64 (R : Res).nu, .int .i64 (R : Res).tr]])).put (some 70) (.agg #[.int .i64 (R : Res).pc, .slice (some ⟨gs, 0, none⟩) N cs])).put (some 18) vx).put (some 19) vy).put (some 20) vz) ∧ Hid (OwnN w W7.heap.size gs N cs (R : Res).st) ∧ Hid (OwnN w W7.heap.size ga m ca (R : Res).ce) ∧ Hid (gs ≠ ga) ∧ VB W7 x vx w zCpu ∧ VB W7 y vy w zAr ∧ VB W7 z vz w zEf) 5 ?_ ?_ ?_ ?_ ?_ ?_
      · intro x y z; cases x <;> cases y <;> cases z <;> kernel_rfl
      · intro x y z; cases x <;> cases y <;> cases z <;> kernel_rfl
      · intro x y z; cases x <;> cases y <;> cases z <;> kernel_rfl
      · exact fun _ _ _ _ h => h
      · rintro x y z a w hSw ⟨vx, vy, vz, gs, cs, ga, ca, rfl, Hs, Ha, Hn, bx, by_, bz⟩
        refine ⟨.agg #[.int .i64 (R : Res).pc, .slice (some ⟨gs, 0, none⟩) N cs], Or.inl ⟨by rw [HA0.out]; rfl, ?_⟩, vx, vy, vz, gs, cs, ga, ca, (by rw [HA0.out]; simp only [Act.put, List.setIfInBounds_toArray, List.set_cons_zero, List.set_cons_succ, List.getElem_toArray, List.getElem_cons_zero, List.getElem_cons_succ]), Hs, Ha, Hn, bx, by_, bz⟩
        rw [HA0.out]
        simp only [Act.put, List.setIfInBounds_toArray, List.set_cons_zero, List.set_cons_succ]
        intro w hSw; go_simp <;> with_reducible rfl
      refine stageT (i := 9) rfl (by kernel_rfl) (fun x y z => #[true, true, true, true, true, true, true, true, true, false, false, x, y, z, false, false, false]) (fun x y z => #[true, true, true, true, true, true, true, true, true, true, false, x, y, z, false, false, false]) (fun x y z a w => ∃ (vx vy vz : Value) (gs : Nat) (cs : Nat) (ga : Nat) (ca : Nat), a = (((((((a0.put (some 67) (.agg #[.int .i64 f, .int .i64 s])).put (some 69) (.tuple #[.agg #[.int .i64 (R : Res).pc, .slice (some ⟨gs, 0, none⟩) N cs], .agg #[.slice (some ⟨ga, 0, none⟩) m ca], .agg #[.int .i64 (R : Res).k, .int .i64 (R : Res).po, .int .i64 (R : Res).nu, .int .i64 (R : Res).tr]])).put (some 62) (.tuple #[.agg #[.int .i64 (R : Res).pc, .slice (some ⟨gs, 0, none⟩) N cs], .agg #[.slice (some ⟨ga, 0, none⟩) m ca], .agg #[.int .i64 (R : Res).k, .int .i64 (R : Res).po, .int .i64 (R : Res).nu, .int .i64 (R : Res).tr]])).put (some 70) (.agg #[.int .i64 (R : Res).pc, .slice (some ⟨gs, 0, none⟩) N cs])).put (some 18) vx).put (some 19) vy).put (some 20) vz) ∧ Hid (OwnN w W7.heap.size gs N cs (R : Res).st) ∧ Hid (OwnN w W7.heap.size ga m ca (R : Res).ce) ∧ Hid (gs ≠ ga) ∧ VB W7 x vx w zCpu ∧ VB W7 y vy w zAr ∧ VB W7 z vz w zEf) (fun x y z a w => ∃ (vx vy vz : Value) (gs : Nat) (cs : Nat) (ga : Nat) (ca : Nat), a = ((((((((a0.put (some 67) (.agg #[.int .i64 f, .int .i64 s])).put (some 69) (.tuple #[.agg #[.int .i64 (R : Res).pc, .slice (some ⟨gs, 0, none⟩) N cs], .agg #[.slice (some ⟨ga, 0, none⟩) m ca], .agg #[.int .i64 (R : Res).k, .int .i64 (R : Res).po, .int .i64 (R : Res).nu, .int .i64 (R : Res).tr]])).put (some 62) (.tuple #[.agg #[.int .i64 (R : Res).pc, .slice (some ⟨gs, 0, none⟩) N cs], .agg #[.slice (some ⟨ga, 0, none⟩) m ca], .agg #[.int .i64 (R : Res).k, .int .i64 (R : Res).po, .int .i64 (R : Res).nu, .int .i64 (R : Res).tr]])).put (some 70) (.agg #[.int .i64 (R : Res).pc, .slice (some ⟨gs, 0, none⟩) N cs])).put (some 71) (.agg #[.slice (some ⟨ga, 0, none⟩) m ca])).put (some 18) vx).put (some 19) vy).put (some 20) vz) ∧ Hid (OwnN w W7.heap.size gs N cs (R : Res).st) ∧ Hid (OwnN w W7.heap.size ga m ca (R : Res).ce) ∧ Hid (gs ≠ ga) ∧ VB W7 x vx w zCpu ∧ VB W7 y vy w zAr ∧ VB W7 z vz w zEf) 4 ?_ ?_ ?_ ?_ ?_ ?_
      · intro x y z; cases x <;> cases y <;> cases z <;> kernel_rfl
      · intro x y z; cases x <;> cases y <;> cases z <;> kernel_rfl
      · intro x y z; cases x <;> cases y <;> cases z <;> kernel_rfl
      · exact fun _ _ _ _ h => h
      · rintro x y z a w hSw ⟨vx, vy, vz, gs, cs, ga, ca, rfl, Hs, Ha, Hn, bx, by_, bz⟩
        refine ⟨.agg #[.slice (some ⟨ga, 0, none⟩) m ca], Or.inl ⟨by rw [HA0.out]; rfl, ?_⟩, vx, vy, vz, gs, cs, ga, ca, (by rw [HA0.out]; simp only [Act.put, List.setIfInBounds_toArray, List.set_cons_zero, List.set_cons_succ, List.getElem_toArray, List.getElem_cons_zero, List.getElem_cons_succ]), Hs, Ha, Hn, bx, by_, bz⟩
        rw [HA0.out]
        simp only [Act.put, List.setIfInBounds_toArray, List.set_cons_zero, List.set_cons_succ]
        intro w hSw; go_simp <;> with_reducible rfl
      refine stageT (i := 10) rfl (by kernel_rfl) (fun x y z => #[true, true, true, true, true, true, true, true, true, true, false, x, y, z, false, false, false]) (fun x y z => #[true, true, true, true, true, true, true, true, true, true, true, x, y, z, false, false, false]) (fun x y z a w => ∃ (vx vy vz : Value) (gs : Nat) (cs : Nat) (ga : Nat) (ca : Nat), a = ((((((((a0.put (some 67) (.agg #[.int .i64 f, .int .i64 s])).put (some 69) (.tuple #[.agg #[.int .i64 (R : Res).pc, .slice (some ⟨gs, 0, none⟩) N cs], .agg #[.slice (some ⟨ga, 0, none⟩) m ca], .agg #[.int .i64 (R : Res).k, .int .i64 (R : Res).po, .int .i64 (R : Res).nu, .int .i64 (R : Res).tr]])).put (some 62) (.tuple #[.agg #[.int .i64 (R : Res).pc, .slice (some ⟨gs, 0, none⟩) N cs], .agg #[.slice (some ⟨ga, 0, none⟩) m ca], .agg #[.int .i64 (R : Res).k, .int .i64 (R : Res).po, .int .i64 (R : Res).nu, .int .i64 (R : Res).tr]])).put (some 70) (.agg #[.int .i64 (R : Res).pc, .slice (some ⟨gs, 0, none⟩) N cs])).put (some 71) (.agg #[.slice (some ⟨ga, 0, none⟩) m ca])).put (some 18) vx).put (some 19) vy).put (some 20) vz) ∧ Hid (OwnN w W7.heap.size gs N cs (R : Res).st) ∧ Hid (OwnN w W7.heap.size ga m ca (R : Res).ce) ∧ Hid (gs ≠ ga) ∧ VB W7 x vx w zCpu ∧ VB W7 y vy w zAr ∧ VB W7 z vz w zEf) (fun x y z a w => ∃ (vx vy vz : Value) (gs : Nat) (cs : Nat) (ga : Nat) (ca : Nat), a = (((((((((a0.put (some 67) (.agg #[.int .i64 f, .int .i64 s])).put (some 69) (.tuple #[.agg #[.int .i64 (R : Res).pc, .slice (some ⟨gs, 0, none⟩) N cs], .agg #[.slice (some ⟨ga, 0, none⟩) m ca], .agg #[.int .i64 (R : Res).k, .int .i64 (R : Res).po, .int .i64 (R : Res).nu, .int .i64 (R : Res).tr]])).put (some 62) (.tuple #[.agg #[.int .i64 (R : Res).pc, .slice (some ⟨gs, 0, none⟩) N cs], .agg #[.slice (some ⟨ga, 0, none⟩) m ca], .agg #[.int .i64 (R : Res).k, .int .i64 (R : Res).po, .int .i64 (R : Res).nu, .int .i64 (R : Res).tr]])).put (some 70) (.agg #[.int .i64 (R : Res).pc, .slice (some ⟨gs, 0, none⟩) N cs])).put (some 71) (.agg #[.slice (some ⟨ga, 0, none⟩) m ca])).put (some 72) (.agg #[.int .i64 (R : Res).k, .int .i64 (R : Res).po, .int .i64 (R : Res).nu, .int .i64 (R : Res).tr])).put (some 18) vx).put (some 19) vy).put (some 20) vz) ∧ Hid (OwnN w W7.heap.size gs N cs (R : Res).st) ∧ Hid (OwnN w W7.heap.size ga m ca (R : Res).ce) ∧ Hid (gs ≠ ga) ∧ VB W7 x vx w zCpu ∧ VB W7 y vy w zAr ∧ VB W7 z vz w zEf) 3 ?_ ?_ ?_ ?_ ?_ ?_
      · intro x y z; cases x <;> cases y <;> cases z <;> kernel_rfl
      · intro x y z; cases x <;> cases y <;> cases z <;> kernel_rfl
      · intro x y z; cases x <;> cases y <;> cases z <;> kernel_rfl
      · exact fun _ _ _ _ h => h
      · rintro x y z a w hSw ⟨vx, vy, vz, gs, cs, ga, ca, rfl, Hs, Ha, Hn, bx, by_, bz⟩
        refine ⟨.agg #[.int .i64 (R : Res).k, .int .i64 (R : Res).po, .int .i64 (R : Res).nu, .int .i64 (R : Res).tr], Or.inl ⟨by rw [HA0.out]; rfl, ?_⟩, vx, vy, vz, gs, cs, ga, ca, (by rw [HA0.out]; simp only [Act.put, List.setIfInBounds_toArray, List.set_cons_zero, List.set_cons_succ, List.getElem_toArray, List.getElem_cons_zero, List.getElem_cons_succ]), Hs, Ha, Hn, bx, by_, bz⟩
        rw [HA0.out]
        simp only [Act.put, List.setIfInBounds_toArray, List.set_cons_zero, List.set_cons_succ]
        intro w hSw; go_simp <;> with_reducible rfl
      refine stage3e (i1 := 11) (i2 := 12) (i3 := 13) (fun x y z => #[true, true, true, true, true, true, true, true, true, true, true, x, y, z, false, false, false]) (fun x y z a w => ∃ (vx vy vz : Value) (gs : Nat) (cs : Nat) (ga : Nat) (ca : Nat), a = (((((((((a0.put (some 67) (.agg #[.int .i64 f, .int .i64 s])).put (some 69) (.tuple #[.agg #[.int .i64 (R : Res).pc, .slice (some ⟨gs, 0, none⟩) N cs], .agg #[.slice (some ⟨ga, 0, none⟩) m ca], .agg #[.int .i64 (R : Res).k, .int .i64 (R : Res).po, .int .i64 (R : Res).nu, .int .i64 (R : Res).tr]])).put (some 62) (.tuple #[.agg #[.int .i64 (R : Res).pc, .slice (some ⟨gs, 0, none⟩) N cs], .agg #[.slice (some ⟨ga, 0, none⟩) m ca], .agg #[.int .i64 (R : Res).k, .int .i64 (R : Res).po, .int .i64 (R : Res).nu, .int .i64 (R : Res).tr]])).put (some 70) (.agg #[.int .i64 (R : Res).pc, .slice (some ⟨gs, 0, none⟩) N cs])).put (some 71) (.agg #[.slice (some ⟨ga, 0, none⟩) m ca])).put (some 72) (.agg #[.int .i64 (R : Res).k, .int .i64 (R : Res).po, .int .i64 (R : Res).nu, .int .i64 (R : Res).tr])).put (some 18) vx).put (some 19) vy).put (some 20) vz) ∧ Hid (OwnN w W7.heap.size gs N cs (R : Res).st) ∧ Hid (OwnN w W7.heap.size ga m ca (R : Res).ce) ∧ Hid (gs ≠ ga) ∧ VB W7 x vx w zCpu ∧ VB W7 y vy w zAr ∧ VB W7 z vz w zEf) 3 ?_ ?_ ?_ ?_ ?_ ?_ ?_ ?_ ?_
      · intro x y z hp i hi
        cases x <;> cases y <;> cases z
        · have e_ := mem_kernel (rs := [11, 12, 13]) (by kernel_rfl) hi; (first | (simp at e_ ⊢; done) | (simp at e_ ⊢; omega))
        · have e_ := mem_kernel (rs := [11, 12]) (by kernel_rfl) hi; (first | (simp at e_ ⊢; done) | (simp at e_ ⊢; omega))
        · have e_ := mem_kernel (rs := [11, 13]) (by kernel_rfl) hi; (first | (simp at e_ ⊢; done) | (simp at e_ ⊢; omega))
        · have e_ := mem_kernel (rs := [11]) (by kernel_rfl) hi; (first | (simp at e_ ⊢; done) | (simp at e_ ⊢; omega))
        · have e_ := mem_kernel (rs := [12, 13]) (by kernel_rfl) hi; (first | (simp at e_ ⊢; done) | (simp at e_ ⊢; omega))
        · have e_ := mem_kernel (rs := [12]) (by kernel_rfl) hi; (first | (simp at e_ ⊢; done) | (simp at e_ ⊢; omega))
        · have e_ := mem_kernel (rs := [13]) (by kernel_rfl) hi; (first | (simp at e_ ⊢; done) | (simp at e_ ⊢; omega))
        · simp at hp
      · intro x y z
        cases x <;> cases y <;> cases z
        · exact ne_kernel (rs := [11, 12, 13]) (by kernel_rfl) (by simp)
        · exact ne_kernel (rs := [11, 12]) (by kernel_rfl) (by simp)
        · exact ne_kernel (rs := [11, 13]) (by kernel_rfl) (by simp)
        · exact ne_kernel (rs := [11]) (by kernel_rfl) (by simp)
        · exact ne_kernel (rs := [12, 13]) (by kernel_rfl) (by simp)
        · exact ne_kernel (rs := [12]) (by kernel_rfl) (by simp)
        · exact ne_kernel (rs := [13]) (by kernel_rfl) (by simp)
        · exact ne_kernel (rs := [14]) (by kernel_rfl) (by simp)
      · intro x y; cases x <;> cases y <;> kernel_rfl
      · intro x y; cases x <;> cases y <;> kernel_rfl
      · intro x y; cases x <;> cases y <;> kernel_rfl
      · rintro y z a w hSw ⟨vx, vy, vz, gs, cs, ga, ca, rfl, Hs, Ha, Hn, bx, by_, bz⟩
        refine wpOp_step (i := 11) rfl (fun K hK => ?_)
        have HK : Shut _ := hK
        clear hK
        rw [HA0.out]
        simp only [Act.put, List.setIfInBounds_toArray, List.set_cons_zero, List.set_cons_succ]
        go_simp
        exact HK.out _ _ ⟨bel_on (Nat.le_refl _) hSw (al1_b w zCpu), _, vy, vz, gs, cs, ga, ca, (by rw [HA0.out]; simp only [Act.put, List.setIfInBounds_toArray, List.set_cons_zero, List.set_cons_succ]), Hs.out.on (al1_b w zCpu), Ha.out.on (al1_b w zCpu), Hn.out, VB.new hSw, by_.on (al1_b w zCpu), bz.on (al1_b w zCpu)⟩
      · rintro x z a w hSw ⟨vx, vy, vz, gs, cs, ga, ca, rfl, Hs, Ha, Hn, bx, by_, bz⟩
        refine wpOp_step (i := 12) rfl (fun K hK => ?_)
        have HK : Shut _ := hK
        clear hK
        rw [HA0.out]
        simp only [Act.put, List.setIfInBounds_toArray, List.set_cons_zero, List.set_cons_succ]
        go_simp
        exact HK.out _ _ ⟨bel_on (Nat.le_refl _) hSw (al1_b w zAr), vx, _, vz, gs, cs, ga, ca, (by rw [HA0.out]; simp only [Act.put, List.setIfInBounds_toArray, List.set_cons_zero, List.set_cons_succ]), Hs.out.on (al1_b w zAr), Ha.out.on (al1_b w zAr), Hn.out, bx.on (al1_b w zAr), VB.new hSw, bz.on (al1_b w zAr)⟩
      · rintro x y a w hSw ⟨vx, vy, vz, gs, cs, ga, ca, rfl, Hs, Ha, Hn, bx, by_, bz⟩
        refine wpOp_step (i := 13) rfl (fun K hK => ?_)
        have HK : Shut _ := hK
        clear hK
        rw [HA0.out]
        simp only [Act.put, List.setIfInBounds_toArray, List.set_cons_zero, List.set_cons_succ]
        go_simp
        exact HK.out _ _ ⟨bel_on (Nat.le_refl _) hSw (al1_b w zEf), vx, vy, _, gs, cs, ga, ca, (by rw [HA0.out]; simp only [Act.put, List.setIfInBounds_toArray, List.set_cons_zero, List.set_cons_succ]), Hs.out.on (al1_b w zEf), Ha.out.on (al1_b w zEf), Hn.out, bx.on (al1_b w zEf), by_.on (al1_b w zEf), VB.new hSw⟩
      · rintro f a w hf hSw ⟨vx, vy, vz, gs, cs, ga, ca, rfl, Hs, Ha, Hn, bx, by_, bz⟩
        obtain ⟨f2, rfl⟩ : ∃ f2, f = f2 + 3 := ⟨f - 3, by omega⟩
        obtain ⟨b1, rfl, hz1, l1⟩ := bx rfl
        obtain ⟨b2, rfl, hz2, l2⟩ := by_ rfl
        obtain ⟨b3, rfl, hz3, l3⟩ := bz rfl
        have kz1 := row2_cells hz1
        have kz2 := row1_cells hz2
        have kz3 := row4_cells hz3
        have m12 := row_ne hz1 hz2 (by intro e; cases e)
        have m13 := row_ne hz1 hz3 (by intro e; cases e)
        have m23 := row_ne hz2 hz3 (by intro e; cases e)
        have m21 := m12.symm
        have m31 := m13.symm
        have m32 := m23.symm
        rw [HA0.out]
        simp only [Act.put, List.setIfInBounds_toArray, List.set_cons_zero, List.set_cons_succ]
        refine wpAnyH_ready (rs := [14]) (by kernel_rfl) (by simp) ?_
        refine AllReadyH.cons rfl (fun K hK => ?_) AllReadyH.nil
        go_simp
        refine hK.out _ _ ?_ (fun hHeld2 => ?_)
        · exact (Below.setCell (Below.setCell hSw l1 _) l1 _)
        have hT1 := hHeld2
        clear hHeld2 hK K
        refine wpAnyH_ready (rs := [15]) (by kernel_rfl) (by simp) ?_
        refine AllReadyH.cons rfl (fun K hK => ?_) AllReadyH.nil
        go_simp
        refine hK.out _ _ ?_ (fun hHeld2 => ?_)
        · exact (Below.setCell hT1 l2 _)
        have hT2 := hHeld2
        clear hHeld2 hK K
        refine wpAnyH_ready (rs := [16]) (by kernel_rfl) (by simp) ?_
        refine AllReadyH.cons rfl (fun K hK => ?_) AllReadyH.nil
        go_simp
        refine hK.out _ _ ?_ (fun hHeld2 => ?_)
        · exact (Below.setCell (Below.setCell (Below.setCell (Below.setCell hT2 l3 _) l3 _) l3 _) l3 _)
        have hT3 := hHeld2
        clear hHeld2 hK K
        refine wpAnyH_done (by kernel_rfl) ?_ _
        (try go_wp2_with fail)
        go_meet
        refine ⟨b1, b2, b3, gs, cs, ga, ca, rfl, rfl, rfl, hid ?_⟩
        with_reducible exact out_stores (R := R) hz1 hz2 hz3 Hs.out Ha.out Hn.out l1 l2 l3 hSw
  case rest =>
  rename World => w8
  obtain ⟨b1_8, b2_8, b3_8, gs8, cs8, ga8, ca8, rfl, rfl, rfl, HO8⟩ := hcut
  have N_101 : Hid ((W7).heap.size ≤ (w8).heap.size) := (HO8.out.bel).size
  have FW_102 : Hid (Below w.heap.size w (w8)) := bel_on (Nat.le_refl _) FW_86.out (HO8.out.bel)
  have FC_103 : Hid ((w8).heap[w.heap.size]? = some (.cells #[.int .i64 pc, .slice a n cap] 24)) := row_on FC_87.out (HO8.out.bel)
  have FR_104 : Hid ((w8).heap[w.heap.size + 1]? = some (.cells #[.slice qa m ca] 33)) := row_on FR_88.out (HO8.out.bel)
  have FG_105 : Hid ((w8).heap[w.heap.size + 1 + 1]? = some (.cells #[.int .i64 f, .int .i64 s] 35)) := row_on FG_89.out (HO8.out.bel)
  have FP3_106 : Hid ((w8).heap[b1_3]? = some (.cells #[.int .i64 R.pc, .slice (some ⟨gs3, 0, none⟩) N cs3] 27)) := row_on FP3_90.out (HO8.out.bel)
  have FQ3_107 : Hid ((w8).heap[b2_3]? = some (.cells #[.slice (some ⟨ga3, 0, none⟩) m ca3] 38)) := row_on FQ3_91.out (HO8.out.bel)
  have FE3_108 : Hid ((w8).heap[b3_3]? = some (.cells #[.int .i64 R.k, .int .i64 R.po, .int .i64 R.nu, .int .i64 R.tr] 40)) := row_on FE3_92.out (HO8.out.bel)
  have FS3_109 : Hid (OwnN (w8) w2.heap.size gs3 N cs3 R.st) := FS3_93.out.on (HO8.out.bel)
  have FA3_110 : Hid (OwnN (w8) w2.heap.size ga3 m ca3 R.ce) := FA3_94.out.on (HO8.out.bel)
  have FX_111 : Hid (RowAt (w8) g4 st) := RowAt.on FX_95.out (HO8.out.bel)
  have FB_112 : Hid ((w8).heap[w4.heap.size]? = some (.cells #[.int .i64 pc, .slice (some ⟨g4, 0, none⟩) n n] 27)) := row_on FB_96.out (HO8.out.bel)
  have FI_113 : Hid (I.RowR (w8) g5 rl) := I.RowR.on FI_97.out (HO8.out.bel)
  have FY_114 : Hid (RowAt (w8) g6 ce) := RowAt.on FY_98.out (HO8.out.bel)
  have FD_115 : Hid ((w8).heap[w6.heap.size]? = some (.cells #[.slice (some ⟨g6, 0, none⟩) m m] 38)) := row_on FD_100.out (HO8.out.bel)
  clear FW_86 FC_87 FR_88 FG_89 FP3_90 FQ3_91 FE3_92 FS3_93 FA3_94 FX_95 FB_96 FI_97 FY_98 FD_100
  have FP8_116 : Hid ((w8).heap[b1_8]? = some (.cells #[.int .i64 R.pc, .slice (some ⟨gs8, 0, none⟩) N cs8] 27)) := HO8.out.1
  have FQ8_117 : Hid ((w8).heap[b2_8]? = some (.cells #[.slice (some ⟨ga8, 0, none⟩) m ca8] 38)) := HO8.out.2.1
  have FE8_118 : Hid ((w8).heap[b3_8]? = some (.cells #[.int .i64 R.k, .int .i64 R.po, .int .i64 R.nu, .int .i64 R.tr] 40)) := HO8.out.2.2.1
  have FS8_119 : Hid (OwnN (w8) W7.heap.size gs8 N cs8 R.st) := HO8.out.2.2.2.1
  have FA8_120 : Hid (OwnN (w8) W7.heap.size ga8 m ca8 R.ce) := HO8.out.2.2.2.2.1
  have N_121 : Hid (gs8 ≠ ga8 ∧ gs8 ≠ b1_8 ∧ gs8 ≠ b2_8 ∧ gs8 ≠ b3_8 ∧ ga8 ≠ b1_8 ∧ ga8 ≠ b2_8 ∧ ga8 ≠ b3_8) := ⟨HO8.out.2.2.2.2.2.1, own_ne HO8.out.2.2.2.1 HO8.out.1 (by decide), own_ne HO8.out.2.2.2.1 HO8.out.2.1 (by decide), own_ne HO8.out.2.2.2.1 HO8.out.2.2.1 (by decide), own_ne HO8.out.2.2.2.2.1 HO8.out.1 (by decide), own_ne HO8.out.2.2.2.2.1 HO8.out.2.1 (by decide), own_ne HO8.out.2.2.2.2.1 HO8.out.2.2.1 (by decide)⟩
  have N_122 : Hid (W7.heap.size ≤ b1_8 ∧ W7.heap.size ≤ b2_8 ∧ W7.heap.size ≤ b3_8 ∧ W7.heap.size ≤ gs8 ∧ W7.heap.size ≤ ga8) := ⟨HO8.out.2.2.2.2.2.2.1, HO8.out.2.2.2.2.2.2.2.1, HO8.out.2.2.2.2.2.2.2.2.1, HO8.out.2.2.2.1.ge, HO8.out.2.2.2.2.1.ge⟩
  have N_123 : Hid (b1_8 < w8.heap.size ∧ b2_8 < w8.heap.size ∧ b3_8 < w8.heap.size ∧ gs8 < w8.heap.size ∧ ga8 < w8.heap.size) := ⟨row_lt HO8.out.1, row_lt HO8.out.2.1, row_lt HO8.out.2.2.1, HO8.out.2.2.2.1.lt, HO8.out.2.2.2.2.1.lt⟩
  clear HO8
  clear Q70 Q71 Q72 Q73 Q74 HX7 HI7 HY7
  have kP8 := row2_cells FP8_116.out
  have kP3 := row2_cells FP3_106.out
  go_wp2_with fail
  clear kP8 kP3
  refine (eqC (some ⟨gs8, 0, none⟩) (some ⟨gs3, 0, none⟩) R.pc R.st N cs8 cs3 HNN.out HN1.out _ FS8_119.out.rd FS3_109.out.rd).mono ?_
  rintro e w9 ⟨rfl, hb9⟩
  have N_124 : Hid ((w8).heap.size ≤ (w9).heap.size) := (hb9).size
  have FW_125 : Hid (Below w.heap.size w (w9)) := bel_on (Nat.le_refl _) FW_102.out (hb9)
  have FC_126 : Hid ((w9).heap[w.heap.size]? = some (.cells #[.int .i64 pc, .slice a n cap] 24)) := row_on FC_103.out (hb9)
  have FR_127 : Hid ((w9).heap[w.heap.size + 1]? = some (.cells #[.slice qa m ca] 33)) := row_on FR_104.out (hb9)
  have FG_128 : Hid ((w9).heap[w.heap.size + 1 + 1]? = some (.cells #[.int .i64 f, .int .i64 s] 35)) := row_on FG_105.out (hb9)
  have FP3_129 : Hid ((w9).heap[b1_3]? = some (.cells #[.int .i64 R.pc, .slice (some ⟨gs3, 0, none⟩) N cs3] 27)) := row_on FP3_106.out (hb9)
  have FQ3_130 : Hid ((w9).heap[b2_3]? = some (.cells #[.slice (some ⟨ga3, 0, none⟩) m ca3] 38)) := row_on FQ3_107.out (hb9)
  have FE3_131 : Hid ((w9).heap[b3_3]? = some (.cells #[.int .i64 R.k, .int .i64 R.po, .int .i64 R.nu, .int .i64 R.tr] 40)) := row_on FE3_108.out (hb9)
  have FS3_132 : Hid (OwnN (w9) w2.heap.size gs3 N cs3 R.st) := FS3_109.out.on (hb9)
  have FA3_133 : Hid (OwnN (w9) w2.heap.size ga3 m ca3 R.ce) := FA3_110.out.on (hb9)
  have FX_134 : Hid (RowAt (w9) g4 st) := RowAt.on FX_111.out (hb9)
  have FB_135 : Hid ((w9).heap[w4.heap.size]? = some (.cells #[.int .i64 pc, .slice (some ⟨g4, 0, none⟩) n n] 27)) := row_on FB_112.out (hb9)
  have FI_136 : Hid (I.RowR (w9) g5 rl) := I.RowR.on FI_113.out (hb9)
  have FY_137 : Hid (RowAt (w9) g6 ce) := RowAt.on FY_114.out (hb9)
  have FD_138 : Hid ((w9).heap[w6.heap.size]? = some (.cells #[.slice (some ⟨g6, 0, none⟩) m m] 38)) := row_on FD_115.out (hb9)
  have FP8_139 : Hid ((w9).heap[b1_8]? = some (.cells #[.int .i64 R.pc, .slice (some ⟨gs8, 0, none⟩) N cs8] 27)) := row_on FP8_116.out (hb9)
  have FQ8_140 : Hid ((w9).heap[b2_8]? = some (.cells #[.slice (some ⟨ga8, 0, none⟩) m ca8] 38)) := row_on FQ8_117.out (hb9)
  have FE8_141 : Hid ((w9).heap[b3_8]? = some (.cells #[.int .i64 R.k, .int .i64 R.po, .int .i64 R.nu, .int .i64 R.tr] 40)) := row_on FE8_118.out (hb9)
  have FS8_142 : Hid (OwnN (w9) W7.heap.size gs8 N cs8 R.st) := FS8_119.out.on (hb9)
  have FA8_143 : Hid (OwnN (w9) W7.heap.size ga8 m ca8 R.ce) := FA8_120.out.on (hb9)
  clear FW_102 FC_103 FR_104 FG_105 FP3_106 FQ3_107 FE3_108 FS3_109 FA3_110 FX_111 FB_112 FI_113 FY_114 FD_115 FP8_116 FQ8_117 FE8_118 FS8_119 FA8_120 hb9
  have kQ8 := row1_cells FQ8_140.out
  have kQ3 := row1_cells FQ3_130.out
  go_wp2_with fail
  clear kQ8 kQ3
  refine (eqA (some ⟨ga8, 0, none⟩) (some ⟨ga3, 0, none⟩) R.ce m ca8 ca3 HCE.out hm _ FA8_143.out.rd FA3_133.out.rd).mono ?_
  rintro e w10 ⟨rfl, hb10⟩
  have N_144 : Hid ((w9).heap.size ≤ (w10).heap.size) := (hb10).size
  have FW_145 : Hid (Below w.heap.size w (w10)) := bel_on (Nat.le_refl _) FW_125.out (hb10)
  have FC_146 : Hid ((w10).heap[w.heap.size]? = some (.cells #[.int .i64 pc, .slice a n cap] 24)) := row_on FC_126.out (hb10)
  have FR_147 : Hid ((w10).heap[w.heap.size + 1]? = some (.cells #[.slice qa m ca] 33)) := row_on FR_127.out (hb10)
  have FG_148 : Hid ((w10).heap[w.heap.size + 1 + 1]? = some (.cells #[.int .i64 f, .int .i64 s] 35)) := row_on FG_128.out (hb10)
  have FP3_149 : Hid ((w10).heap[b1_3]? = some (.cells #[.int .i64 R.pc, .slice (some ⟨gs3, 0, none⟩) N cs3] 27)) := row_on FP3_129.out (hb10)
  have FQ3_150 : Hid ((w10).heap[b2_3]? = some (.cells #[.slice (some ⟨ga3, 0, none⟩) m ca3] 38)) := row_on FQ3_130.out (hb10)
  have FE3_151 : Hid ((w10).heap[b3_3]? = some (.cells #[.int .i64 R.k, .int .i64 R.po, .int .i64 R.nu, .int .i64 R.tr] 40)) := row_on FE3_131.out (hb10)
  have FS3_152 : Hid (OwnN (w10) w2.heap.size gs3 N cs3 R.st) := FS3_132.out.on (hb10)
  have FA3_153 : Hid (OwnN (w10) w2.heap.size ga3 m ca3 R.ce) := FA3_133.out.on (hb10)
  have FX_154 : Hid (RowAt (w10) g4 st) := RowAt.on FX_134.out (hb10)
  have FB_155 : Hid ((w10).heap[w4.heap.size]? = some (.cells #[.int .i64 pc, .slice (some ⟨g4, 0, none⟩) n n] 27)) := row_on FB_135.out (hb10)
  have FI_156 : Hid (I.RowR (w10) g5 rl) := I.RowR.on FI_136.out (hb10)
  have FY_157 : Hid (RowAt (w10) g6 ce) := RowAt.on FY_137.out (hb10)
  have FD_158 : Hid ((w10).heap[w6.heap.size]? = some (.cells #[.slice (some ⟨g6, 0, none⟩) m m] 38)) := row_on FD_138.out (hb10)
  have FP8_159 : Hid ((w10).heap[b1_8]? = some (.cells #[.int .i64 R.pc, .slice (some ⟨gs8, 0, none⟩) N cs8] 27)) := row_on FP8_139.out (hb10)
  have FQ8_160 : Hid ((w10).heap[b2_8]? = some (.cells #[.slice (some ⟨ga8, 0, none⟩) m ca8] 38)) := row_on FQ8_140.out (hb10)
  have FE8_161 : Hid ((w10).heap[b3_8]? = some (.cells #[.int .i64 R.k, .int .i64 R.po, .int .i64 R.nu, .int .i64 R.tr] 40)) := row_on FE8_141.out (hb10)
  have FS8_162 : Hid (OwnN (w10) W7.heap.size gs8 N cs8 R.st) := FS8_142.out.on (hb10)
  have FA8_163 : Hid (OwnN (w10) W7.heap.size ga8 m ca8 R.ce) := FA8_143.out.on (hb10)
  clear FW_125 FC_126 FR_127 FG_128 FP3_129 FQ3_130 FE3_131 FS3_132 FA3_133 FX_134 FB_135 FI_136 FY_137 FD_138 FP8_139 FQ8_140 FE8_141 FS8_142 FA8_143 hb10
  have kE8 := row4_cells FE8_161.out
  have kE3 := row4_cells FE3_151.out
  go_wp2_with fail
  clear kE8 kE3
  refine (eqE R.k R.po R.nu R.tr _).mono ?_
  rintro e w11 ⟨rfl, hb11⟩
  have N_164 : Hid ((w10).heap.size ≤ (w11).heap.size) := (hb11).size
  have FW_165 : Hid (Below w.heap.size w (w11)) := bel_on (Nat.le_refl _) FW_145.out (hb11)
  have FC_166 : Hid ((w11).heap[w.heap.size]? = some (.cells #[.int .i64 pc, .slice a n cap] 24)) := row_on FC_146.out (hb11)
  have FR_167 : Hid ((w11).heap[w.heap.size + 1]? = some (.cells #[.slice qa m ca] 33)) := row_on FR_147.out (hb11)
  have FG_168 : Hid ((w11).heap[w.heap.size + 1 + 1]? = some (.cells #[.int .i64 f, .int .i64 s] 35)) := row_on FG_148.out (hb11)
  have FP3_169 : Hid ((w11).heap[b1_3]? = some (.cells #[.int .i64 R.pc, .slice (some ⟨gs3, 0, none⟩) N cs3] 27)) := row_on FP3_149.out (hb11)
  have FQ3_170 : Hid ((w11).heap[b2_3]? = some (.cells #[.slice (some ⟨ga3, 0, none⟩) m ca3] 38)) := row_on FQ3_150.out (hb11)
  have FE3_171 : Hid ((w11).heap[b3_3]? = some (.cells #[.int .i64 R.k, .int .i64 R.po, .int .i64 R.nu, .int .i64 R.tr] 40)) := row_on FE3_151.out (hb11)
  have FS3_172 : Hid (OwnN (w11) w2.heap.size gs3 N cs3 R.st) := FS3_152.out.on (hb11)
  have FA3_173 : Hid (OwnN (w11) w2.heap.size ga3 m ca3 R.ce) := FA3_153.out.on (hb11)
  have FX_174 : Hid (RowAt (w11) g4 st) := RowAt.on FX_154.out (hb11)
  have FB_175 : Hid ((w11).heap[w4.heap.size]? = some (.cells #[.int .i64 pc, .slice (some ⟨g4, 0, none⟩) n n] 27)) := row_on FB_155.out (hb11)
  have FI_176 : Hid (I.RowR (w11) g5 rl) := I.RowR.on FI_156.out (hb11)
  have FY_177 : Hid (RowAt (w11) g6 ce) := RowAt.on FY_157.out (hb11)
  have FD_178 : Hid ((w11).heap[w6.heap.size]? = some (.cells #[.slice (some ⟨g6, 0, none⟩) m m] 38)) := row_on FD_158.out (hb11)
  have FP8_179 : Hid ((w11).heap[b1_8]? = some (.cells #[.int .i64 R.pc, .slice (some ⟨gs8, 0, none⟩) N cs8] 27)) := row_on FP8_159.out (hb11)
  have FQ8_180 : Hid ((w11).heap[b2_8]? = some (.cells #[.slice (some ⟨ga8, 0, none⟩) m ca8] 38)) := row_on FQ8_160.out (hb11)
  have FE8_181 : Hid ((w11).heap[b3_8]? = some (.cells #[.int .i64 R.k, .int .i64 R.po, .int .i64 R.nu, .int .i64 R.tr] 40)) := row_on FE8_161.out (hb11)
  have FS8_182 : Hid (OwnN (w11) W7.heap.size gs8 N cs8 R.st) := FS8_162.out.on (hb11)
  have FA8_183 : Hid (OwnN (w11) W7.heap.size ga8 m ca8 R.ce) := FA8_163.out.on (hb11)
  clear FW_145 FC_146 FR_147 FG_148 FP3_149 FQ3_150 FE3_151 FS3_152 FA3_153 FX_154 FB_155 FI_156 FY_157 FD_158 FP8_159 FQ8_160 FE8_161 FS8_162 FA8_163 hb11
  have HQ : Hid (w11.cell? ⟨w4.heap.size, 0, none⟩ = some (.int .i64 pc) ∧ w11.cell? ⟨w4.heap.size, 1, none⟩ = some (.slice (some ⟨g4, 0, none⟩) n n) ∧ w11.cell? ⟨w.heap.size, 0, none⟩ = some (.int .i64 pc) ∧ w11.cell? ⟨w.heap.size, 1, none⟩ = some (.slice a n cap)) := ⟨(row2_cells FB_175.out).1, (row2_cells FB_175.out).2.1, (row2_cells FC_166.out).1, (row2_cells FC_166.out).2.1⟩
  have HRw : Hid (Rd w11 a st) := HR.out.keep FW_165.out (Nat.le_refl _)
  have HXw : Hid (Rd w11 (some ⟨g4, 0, none⟩) st) := RowAt.rd FX_174.out
  go_wp2_with fail
  go_region_held3 (fun w' => w'.cell? ⟨w4.heap.size, 0, none⟩ = some (.int .i64 pc) ∧ w'.cell? ⟨w4.heap.size, 1, none⟩ = some (.slice (some ⟨g4, 0, none⟩) n n) ∧ w'.cell? ⟨w.heap.size, 0, none⟩ = some (.int .i64 pc) ∧ w'.cell? ⟨w.heap.size, 1, none⟩ = some (.slice a n cap) ∧ Below w11.heap.size w11 w') (first | (with_reducible exact q4_keep HQ.out HBz.out) | (with_reducible exact q4_keep HQ.out (q4_on (by assumption) (by assumption))) | (with_reducible exact q4_keep HQ.out (Below.refl _ _).drew)) (first | (go_at_call 13; refine (toC a pc st n cap HL.out hn _ ?_).mono ?_; (with_reducible exact HRw.out.on (q4_bel (by assumption))); rintro e wt ⟨gt, rfl, hgt, hrowt, hbt⟩) | (go_at_call 15; refine (eqC (some ⟨g4, 0, none⟩) (some ⟨gt, 0, none⟩) pc st n n n HL.out hn _ ?_ hrowt.rd).mono ?_; (with_reducible exact HXw.out.on (q4_bel (by assumption))); rintro e w12 ⟨rfl, hb12⟩; have HBz : Hid (Below w11.heap.size w11 w12) := hid (by with_reducible exact q4_on hb12 (by assumption))))
  rename_i HH
  clear HH hbt hb12 hrowt hgt HQ HRw HXw
  have N_184 : Hid ((w11).heap.size ≤ (w12).heap.size) := (HBz.out).size
  have FW_185 : Hid (Below w.heap.size w (w12)) := bel_on (Nat.le_refl _) FW_165.out (HBz.out)
  have FC_186 : Hid ((w12).heap[w.heap.size]? = some (.cells #[.int .i64 pc, .slice a n cap] 24)) := row_on FC_166.out (HBz.out)
  have FR_187 : Hid ((w12).heap[w.heap.size + 1]? = some (.cells #[.slice qa m ca] 33)) := row_on FR_167.out (HBz.out)
  have FG_188 : Hid ((w12).heap[w.heap.size + 1 + 1]? = some (.cells #[.int .i64 f, .int .i64 s] 35)) := row_on FG_168.out (HBz.out)
  have FP3_189 : Hid ((w12).heap[b1_3]? = some (.cells #[.int .i64 R.pc, .slice (some ⟨gs3, 0, none⟩) N cs3] 27)) := row_on FP3_169.out (HBz.out)
  have FQ3_190 : Hid ((w12).heap[b2_3]? = some (.cells #[.slice (some ⟨ga3, 0, none⟩) m ca3] 38)) := row_on FQ3_170.out (HBz.out)
  have FE3_191 : Hid ((w12).heap[b3_3]? = some (.cells #[.int .i64 R.k, .int .i64 R.po, .int .i64 R.nu, .int .i64 R.tr] 40)) := row_on FE3_171.out (HBz.out)
  have FS3_192 : Hid (OwnN (w12) w2.heap.size gs3 N cs3 R.st) := FS3_172.out.on (HBz.out)
  have FA3_193 : Hid (OwnN (w12) w2.heap.size ga3 m ca3 R.ce) := FA3_173.out.on (HBz.out)
  have FX_194 : Hid (RowAt (w12) g4 st) := RowAt.on FX_174.out (HBz.out)
  have FB_195 : Hid ((w12).heap[w4.heap.size]? = some (.cells #[.int .i64 pc, .slice (some ⟨g4, 0, none⟩) n n] 27)) := row_on FB_175.out (HBz.out)
  have FI_196 : Hid (I.RowR (w12) g5 rl) := I.RowR.on FI_176.out (HBz.out)
  have FY_197 : Hid (RowAt (w12) g6 ce) := RowAt.on FY_177.out (HBz.out)
  have FD_198 : Hid ((w12).heap[w6.heap.size]? = some (.cells #[.slice (some ⟨g6, 0, none⟩) m m] 38)) := row_on FD_178.out (HBz.out)
  have FP8_199 : Hid ((w12).heap[b1_8]? = some (.cells #[.int .i64 R.pc, .slice (some ⟨gs8, 0, none⟩) N cs8] 27)) := row_on FP8_179.out (HBz.out)
  have FQ8_200 : Hid ((w12).heap[b2_8]? = some (.cells #[.slice (some ⟨ga8, 0, none⟩) m ca8] 38)) := row_on FQ8_180.out (HBz.out)
  have FE8_201 : Hid ((w12).heap[b3_8]? = some (.cells #[.int .i64 R.k, .int .i64 R.po, .int .i64 R.nu, .int .i64 R.tr] 40)) := row_on FE8_181.out (HBz.out)
  have FS8_202 : Hid (OwnN (w12) W7.heap.size gs8 N cs8 R.st) := FS8_182.out.on (HBz.out)
  have FA8_203 : Hid (OwnN (w12) W7.heap.size ga8 m ca8 R.ce) := FA8_183.out.on (HBz.out)
  clear FW_165 FC_166 FR_167 FG_168 FP3_169 FQ3_170 FE3_171 FS3_172 FA3_173 FX_174 FB_175 FI_176 FY_177 FD_178 FP8_179 FQ8_180 FE8_181 FS8_182 FA8_183 HBz
  go_wp2_with fail
  refine (I.toRs qc rl nc cc HLC.out hnc _ (HRC.out.keep FW_185.out (Nat.le_refl _))).mono ?_
  rintro e w13 ⟨rfl, hrow13, hb13⟩
  have N_204 : Hid ((w12).heap.size ≤ (w13).heap.size) := (hb13).size
  have FW_205 : Hid (Below w.heap.size w (w13)) := bel_on (Nat.le_refl _) FW_185.out (hb13)
  have FC_206 : Hid ((w13).heap[w.heap.size]? = some (.cells #[.int .i64 pc, .slice a n cap] 24)) := row_on FC_186.out (hb13)
  have FR_207 : Hid ((w13).heap[w.heap.size + 1]? = some (.cells #[.slice qa m ca] 33)) := row_on FR_187.out (hb13)
  have FG_208 : Hid ((w13).heap[w.heap.size + 1 + 1]? = some (.cells #[.int .i64 f, .int .i64 s] 35)) := row_on FG_188.out (hb13)
  have FP3_209 : Hid ((w13).heap[b1_3]? = some (.cells #[.int .i64 R.pc, .slice (some ⟨gs3, 0, none⟩) N cs3] 27)) := row_on FP3_189.out (hb13)
  have FQ3_210 : Hid ((w13).heap[b2_3]? = some (.cells #[.slice (some ⟨ga3, 0, none⟩) m ca3] 38)) := row_on FQ3_190.out (hb13)
  have FE3_211 : Hid ((w13).heap[b3_3]? = some (.cells #[.int .i64 R.k, .int .i64 R.po, .int .i64 R.nu, .int .i64 R.tr] 40)) := row_on FE3_191.out (hb13)
  have FS3_212 : Hid (OwnN (w13) w2.heap.size gs3 N cs3 R.st) := FS3_192.out.on (hb13)
  have FA3_213 : Hid (OwnN (w13) w2.heap.size ga3 m ca3 R.ce) := FA3_193.out.on (hb13)
  have FX_214 : Hid (RowAt (w13) g4 st) := RowAt.on FX_194.out (hb13)
  have FB_215 : Hid ((w13).heap[w4.heap.size]? = some (.cells #[.int .i64 pc, .slice (some ⟨g4, 0, none⟩) n n] 27)) := row_on FB_195.out (hb13)
  have FI_216 : Hid (I.RowR (w13) g5 rl) := I.RowR.on FI_196.out (hb13)
  have FY_217 : Hid (RowAt (w13) g6 ce) := RowAt.on FY_197.out (hb13)
  have FD_218 : Hid ((w13).heap[w6.heap.size]? = some (.cells #[.slice (some ⟨g6, 0, none⟩) m m] 38)) := row_on FD_198.out (hb13)
  have FP8_219 : Hid ((w13).heap[b1_8]? = some (.cells #[.int .i64 R.pc, .slice (some ⟨gs8, 0, none⟩) N cs8] 27)) := row_on FP8_199.out (hb13)
  have FQ8_220 : Hid ((w13).heap[b2_8]? = some (.cells #[.slice (some ⟨ga8, 0, none⟩) m ca8] 38)) := row_on FQ8_200.out (hb13)
  have FE8_221 : Hid ((w13).heap[b3_8]? = some (.cells #[.int .i64 R.k, .int .i64 R.po, .int .i64 R.nu, .int .i64 R.tr] 40)) := row_on FE8_201.out (hb13)
  have FS8_222 : Hid (OwnN (w13) W7.heap.size gs8 N cs8 R.st) := FS8_202.out.on (hb13)
  have FA8_223 : Hid (OwnN (w13) W7.heap.size ga8 m ca8 R.ce) := FA8_203.out.on (hb13)
  clear FW_185 FC_186 FR_187 FG_188 FP3_189 FQ3_190 FE3_191 FS3_192 FA3_193 FX_194 FB_195 FI_196 FY_197 FD_198 FP8_199 FQ8_200 FE8_201 FS8_202 FA8_203 hb13
  go_wp2_with fail
  refine (I.eqIn (some ⟨g5, 0, none⟩) (some ⟨w12.heap.size, 0, none⟩) rl nc nc nc HLC.out hnc _ (I.RowR.rd FI_216.out) (I.RowR.rd hrow13)).mono ?_
  rintro e w14 ⟨rfl, hb14⟩
  clear hrow13
  have N_224 : Hid ((w13).heap.size ≤ (w14).heap.size) := (hb14).size
  have FW_225 : Hid (Below w.heap.size w (w14)) := bel_on (Nat.le_refl _) FW_205.out (hb14)
  have FC_226 : Hid ((w14).heap[w.heap.size]? = some (.cells #[.int .i64 pc, .slice a n cap] 24)) := row_on FC_206.out (hb14)
  have FR_227 : Hid ((w14).heap[w.heap.size + 1]? = some (.cells #[.slice qa m ca] 33)) := row_on FR_207.out (hb14)
  have FG_228 : Hid ((w14).heap[w.heap.size + 1 + 1]? = some (.cells #[.int .i64 f, .int .i64 s] 35)) := row_on FG_208.out (hb14)
  have FP3_229 : Hid ((w14).heap[b1_3]? = some (.cells #[.int .i64 R.pc, .slice (some ⟨gs3, 0, none⟩) N cs3] 27)) := row_on FP3_209.out (hb14)
  have FQ3_230 : Hid ((w14).heap[b2_3]? = some (.cells #[.slice (some ⟨ga3, 0, none⟩) m ca3] 38)) := row_on FQ3_210.out (hb14)
  have FE3_231 : Hid ((w14).heap[b3_3]? = some (.cells #[.int .i64 R.k, .int .i64 R.po, .int .i64 R.nu, .int .i64 R.tr] 40)) := row_on FE3_211.out (hb14)
  have FS3_232 : Hid (OwnN (w14) w2.heap.size gs3 N cs3 R.st) := FS3_212.out.on (hb14)
  have FA3_233 : Hid (OwnN (w14) w2.heap.size ga3 m ca3 R.ce) := FA3_213.out.on (hb14)
  have FX_234 : Hid (RowAt (w14) g4 st) := RowAt.on FX_214.out (hb14)
  have FB_235 : Hid ((w14).heap[w4.heap.size]? = some (.cells #[.int .i64 pc, .slice (some ⟨g4, 0, none⟩) n n] 27)) := row_on FB_215.out (hb14)
  have FI_236 : Hid (I.RowR (w14) g5 rl) := I.RowR.on FI_216.out (hb14)
  have FY_237 : Hid (RowAt (w14) g6 ce) := RowAt.on FY_217.out (hb14)
  have FD_238 : Hid ((w14).heap[w6.heap.size]? = some (.cells #[.slice (some ⟨g6, 0, none⟩) m m] 38)) := row_on FD_218.out (hb14)
  have FP8_239 : Hid ((w14).heap[b1_8]? = some (.cells #[.int .i64 R.pc, .slice (some ⟨gs8, 0, none⟩) N cs8] 27)) := row_on FP8_219.out (hb14)
  have FQ8_240 : Hid ((w14).heap[b2_8]? = some (.cells #[.slice (some ⟨ga8, 0, none⟩) m ca8] 38)) := row_on FQ8_220.out (hb14)
  have FE8_241 : Hid ((w14).heap[b3_8]? = some (.cells #[.int .i64 R.k, .int .i64 R.po, .int .i64 R.nu, .int .i64 R.tr] 40)) := row_on FE8_221.out (hb14)
  have FS8_242 : Hid (OwnN (w14) W7.heap.size gs8 N cs8 R.st) := FS8_222.out.on (hb14)
  have FA8_243 : Hid (OwnN (w14) W7.heap.size ga8 m ca8 R.ce) := FA8_223.out.on (hb14)
  clear FW_205 FC_206 FR_207 FG_208 FP3_209 FQ3_210 FE3_211 FS3_212 FA3_213 FX_214 FB_215 FI_216 FY_217 FD_218 FP8_219 FQ8_220 FE8_221 FS8_222 FA8_223 hb14
  have HQ : Hid (w14.cell? ⟨w6.heap.size, 0, none⟩ = some (.slice (some ⟨g6, 0, none⟩) m m) ∧ w14.cell? ⟨w6.heap.size, 0, none⟩ = some (.slice (some ⟨g6, 0, none⟩) m m) ∧ w14.cell? ⟨w.heap.size + 1, 0, none⟩ = some (.slice qa m ca) ∧ w14.cell? ⟨w.heap.size + 1, 0, none⟩ = some (.slice qa m ca)) := ⟨(row1_cells FD_238.out).1, (row1_cells FD_238.out).1, (row1_cells FR_227.out).1, (row1_cells FR_227.out).1⟩
  have HRw : Hid (Rd w14 qa ce) := HRA.out.keep FW_225.out (Nat.le_refl _)
  have HXw : Hid (Rd w14 (some ⟨g6, 0, none⟩) ce) := RowAt.rd FY_237.out
  go_wp2_with fail
  go_region_held3 (fun w' => w'.cell? ⟨w6.heap.size, 0, none⟩ = some (.slice (some ⟨g6, 0, none⟩) m m) ∧ w'.cell? ⟨w6.heap.size, 0, none⟩ = some (.slice (some ⟨g6, 0, none⟩) m m) ∧ w'.cell? ⟨w.heap.size + 1, 0, none⟩ = some (.slice qa m ca) ∧ w'.cell? ⟨w.heap.size + 1, 0, none⟩ = some (.slice qa m ca) ∧ Below w14.heap.size w14 w') (first | (with_reducible exact q4_keep HQ.out HBz.out) | (with_reducible exact q4_keep HQ.out (q4_on (by assumption) (by assumption))) | (with_reducible exact q4_keep HQ.out (Below.refl _ _).drew)) (first | (go_at_call 20; refine (toA qa ce m ca HLA.out hm _ ?_).mono ?_; (with_reducible exact HRw.out.on (q4_bel (by assumption))); rintro e wt ⟨gt, rfl, hgt, hrowt, hbt⟩) | (go_at_call 23; refine (eqA (some ⟨g6, 0, none⟩) (some ⟨gt, 0, none⟩) ce m m m HLA.out hm _ ?_ hrowt.rd).mono ?_; (with_reducible exact HXw.out.on (q4_bel (by assumption))); rintro e w15 ⟨rfl, hb15⟩; have HBz : Hid (Below w14.heap.size w14 w15) := hid (by with_reducible exact q4_on hb15 (by assumption))))
  rename_i HH
  clear HH hbt hb15 hrowt hgt HQ HRw HXw
  have N_244 : Hid ((w14).heap.size ≤ (w15).heap.size) := (HBz.out).size
  have FW_245 : Hid (Below w.heap.size w (w15)) := bel_on (Nat.le_refl _) FW_225.out (HBz.out)
  have FC_246 : Hid ((w15).heap[w.heap.size]? = some (.cells #[.int .i64 pc, .slice a n cap] 24)) := row_on FC_226.out (HBz.out)
  have FR_247 : Hid ((w15).heap[w.heap.size + 1]? = some (.cells #[.slice qa m ca] 33)) := row_on FR_227.out (HBz.out)
  have FG_248 : Hid ((w15).heap[w.heap.size + 1 + 1]? = some (.cells #[.int .i64 f, .int .i64 s] 35)) := row_on FG_228.out (HBz.out)
  have FP3_249 : Hid ((w15).heap[b1_3]? = some (.cells #[.int .i64 R.pc, .slice (some ⟨gs3, 0, none⟩) N cs3] 27)) := row_on FP3_229.out (HBz.out)
  have FQ3_250 : Hid ((w15).heap[b2_3]? = some (.cells #[.slice (some ⟨ga3, 0, none⟩) m ca3] 38)) := row_on FQ3_230.out (HBz.out)
  have FE3_251 : Hid ((w15).heap[b3_3]? = some (.cells #[.int .i64 R.k, .int .i64 R.po, .int .i64 R.nu, .int .i64 R.tr] 40)) := row_on FE3_231.out (HBz.out)
  have FS3_252 : Hid (OwnN (w15) w2.heap.size gs3 N cs3 R.st) := FS3_232.out.on (HBz.out)
  have FA3_253 : Hid (OwnN (w15) w2.heap.size ga3 m ca3 R.ce) := FA3_233.out.on (HBz.out)
  have FX_254 : Hid (RowAt (w15) g4 st) := RowAt.on FX_234.out (HBz.out)
  have FB_255 : Hid ((w15).heap[w4.heap.size]? = some (.cells #[.int .i64 pc, .slice (some ⟨g4, 0, none⟩) n n] 27)) := row_on FB_235.out (HBz.out)
  have FI_256 : Hid (I.RowR (w15) g5 rl) := I.RowR.on FI_236.out (HBz.out)
  have FY_257 : Hid (RowAt (w15) g6 ce) := RowAt.on FY_237.out (HBz.out)
  have FD_258 : Hid ((w15).heap[w6.heap.size]? = some (.cells #[.slice (some ⟨g6, 0, none⟩) m m] 38)) := row_on FD_238.out (HBz.out)
  have FP8_259 : Hid ((w15).heap[b1_8]? = some (.cells #[.int .i64 R.pc, .slice (some ⟨gs8, 0, none⟩) N cs8] 27)) := row_on FP8_239.out (HBz.out)
  have FQ8_260 : Hid ((w15).heap[b2_8]? = some (.cells #[.slice (some ⟨ga8, 0, none⟩) m ca8] 38)) := row_on FQ8_240.out (HBz.out)
  have FE8_261 : Hid ((w15).heap[b3_8]? = some (.cells #[.int .i64 R.k, .int .i64 R.po, .int .i64 R.nu, .int .i64 R.tr] 40)) := row_on FE8_241.out (HBz.out)
  have FS8_262 : Hid (OwnN (w15) W7.heap.size gs8 N cs8 R.st) := FS8_242.out.on (HBz.out)
  have FA8_263 : Hid (OwnN (w15) W7.heap.size ga8 m ca8 R.ce) := FA8_243.out.on (HBz.out)
  clear FW_225 FC_226 FR_227 FG_228 FP3_229 FQ3_230 FE3_231 FS3_232 FA3_233 FX_234 FB_235 FI_236 FY_237 FD_238 FP8_239 FQ8_240 FE8_241 FS8_242 FA8_243 HBz
  have kB := row2_cells FB_255.out
  go_wp2_with fail
  clear kB
  refine (markC _ g4 pc st n n 1 1 rfl hn (by omega) _ (RowAt.ownN (B := w.heap.size) FX_254.out (by have n0_ := N_4.out; have n1_ := N_8.out; have n2_ := N_13.out; have n3_ := N_18.out; have n4_ := N_28.out; have n5_ := N_29.out; have n6_ := N_30.out; have n7_ := N_31.out; have n8_ := N_41.out; have n9_ := N_54.out; have n10_ := N_56.out; have n11_ := N_68.out; have n12_ := N_70.out; have n13_ := N_83.out; have n14_ := N_99.out; have n15_ := N_101.out; have n16_ := N_121.out; have n17_ := N_122.out; have n18_ := N_123.out; have n19_ := N_124.out; have n20_ := N_144.out; have n21_ := N_164.out; have n22_ := N_184.out; have n23_ := N_204.out; have n24_ := N_224.out; have n25_ := N_244.out; omega) HL.out hn)).mono ?_
  rintro e w16 ⟨rfl, _, hg16⟩
  clear FX_254
  clear FB_255
  have N_264 : Hid ((w15).heap.size ≤ (w16).heap.size) := (hg16).size
  have FW_265 : Hid (Below w.heap.size w (w16)) := FW_245.out.grown (hg16) FW_245.out.size (fun k hk => by cases hk; exact (by have n0_ := N_4.out; have n1_ := N_8.out; have n2_ := N_13.out; have n3_ := N_18.out; have n4_ := N_28.out; have n5_ := N_29.out; have n6_ := N_30.out; have n7_ := N_31.out; have n8_ := N_41.out; have n9_ := N_54.out; have n10_ := N_56.out; have n11_ := N_68.out; have n12_ := N_70.out; have n13_ := N_83.out; have n14_ := N_99.out; have n15_ := N_101.out; have n16_ := N_121.out; have n17_ := N_122.out; have n18_ := N_123.out; have n19_ := N_124.out; have n20_ := N_144.out; have n21_ := N_164.out; have n22_ := N_184.out; have n23_ := N_204.out; have n24_ := N_224.out; have n25_ := N_244.out; have n26_ := N_264.out; omega))
  have FC_266 : Hid ((w16).heap[w.heap.size]? = some (.cells #[.int .i64 pc, .slice a n cap] 24)) := grown_row (hg16) FC_246.out (fun e => by have e_ := Option.some.inj e; have n0_ := N_4.out; have n1_ := N_8.out; have n2_ := N_13.out; have n3_ := N_18.out; have n4_ := N_28.out; have n5_ := N_29.out; have n6_ := N_30.out; have n7_ := N_31.out; have n8_ := N_41.out; have n9_ := N_54.out; have n10_ := N_56.out; have n11_ := N_68.out; have n12_ := N_70.out; have n13_ := N_83.out; have n14_ := N_99.out; have n15_ := N_101.out; have n16_ := N_121.out; have n17_ := N_122.out; have n18_ := N_123.out; have n19_ := N_124.out; have n20_ := N_144.out; have n21_ := N_164.out; have n22_ := N_184.out; have n23_ := N_204.out; have n24_ := N_224.out; have n25_ := N_244.out; have n26_ := N_264.out; omega)
  have FR_267 : Hid ((w16).heap[w.heap.size + 1]? = some (.cells #[.slice qa m ca] 33)) := grown_row (hg16) FR_247.out (fun e => by have e_ := Option.some.inj e; have n0_ := N_4.out; have n1_ := N_8.out; have n2_ := N_13.out; have n3_ := N_18.out; have n4_ := N_28.out; have n5_ := N_29.out; have n6_ := N_30.out; have n7_ := N_31.out; have n8_ := N_41.out; have n9_ := N_54.out; have n10_ := N_56.out; have n11_ := N_68.out; have n12_ := N_70.out; have n13_ := N_83.out; have n14_ := N_99.out; have n15_ := N_101.out; have n16_ := N_121.out; have n17_ := N_122.out; have n18_ := N_123.out; have n19_ := N_124.out; have n20_ := N_144.out; have n21_ := N_164.out; have n22_ := N_184.out; have n23_ := N_204.out; have n24_ := N_224.out; have n25_ := N_244.out; have n26_ := N_264.out; omega)
  have FG_268 : Hid ((w16).heap[w.heap.size + 1 + 1]? = some (.cells #[.int .i64 f, .int .i64 s] 35)) := grown_row (hg16) FG_248.out (fun e => by have e_ := Option.some.inj e; have n0_ := N_4.out; have n1_ := N_8.out; have n2_ := N_13.out; have n3_ := N_18.out; have n4_ := N_28.out; have n5_ := N_29.out; have n6_ := N_30.out; have n7_ := N_31.out; have n8_ := N_41.out; have n9_ := N_54.out; have n10_ := N_56.out; have n11_ := N_68.out; have n12_ := N_70.out; have n13_ := N_83.out; have n14_ := N_99.out; have n15_ := N_101.out; have n16_ := N_121.out; have n17_ := N_122.out; have n18_ := N_123.out; have n19_ := N_124.out; have n20_ := N_144.out; have n21_ := N_164.out; have n22_ := N_184.out; have n23_ := N_204.out; have n24_ := N_224.out; have n25_ := N_244.out; have n26_ := N_264.out; omega)
  have FP3_269 : Hid ((w16).heap[b1_3]? = some (.cells #[.int .i64 R.pc, .slice (some ⟨gs3, 0, none⟩) N cs3] 27)) := grown_row (hg16) FP3_249.out (fun e => by have e_ := Option.some.inj e; have n0_ := N_4.out; have n1_ := N_8.out; have n2_ := N_13.out; have n3_ := N_18.out; have n4_ := N_28.out; have n5_ := N_29.out; have n6_ := N_30.out; have n7_ := N_31.out; have n8_ := N_41.out; have n9_ := N_54.out; have n10_ := N_56.out; have n11_ := N_68.out; have n12_ := N_70.out; have n13_ := N_83.out; have n14_ := N_99.out; have n15_ := N_101.out; have n16_ := N_121.out; have n17_ := N_122.out; have n18_ := N_123.out; have n19_ := N_124.out; have n20_ := N_144.out; have n21_ := N_164.out; have n22_ := N_184.out; have n23_ := N_204.out; have n24_ := N_224.out; have n25_ := N_244.out; have n26_ := N_264.out; omega)
  have FQ3_270 : Hid ((w16).heap[b2_3]? = some (.cells #[.slice (some ⟨ga3, 0, none⟩) m ca3] 38)) := grown_row (hg16) FQ3_250.out (fun e => by have e_ := Option.some.inj e; have n0_ := N_4.out; have n1_ := N_8.out; have n2_ := N_13.out; have n3_ := N_18.out; have n4_ := N_28.out; have n5_ := N_29.out; have n6_ := N_30.out; have n7_ := N_31.out; have n8_ := N_41.out; have n9_ := N_54.out; have n10_ := N_56.out; have n11_ := N_68.out; have n12_ := N_70.out; have n13_ := N_83.out; have n14_ := N_99.out; have n15_ := N_101.out; have n16_ := N_121.out; have n17_ := N_122.out; have n18_ := N_123.out; have n19_ := N_124.out; have n20_ := N_144.out; have n21_ := N_164.out; have n22_ := N_184.out; have n23_ := N_204.out; have n24_ := N_224.out; have n25_ := N_244.out; have n26_ := N_264.out; omega)
  have FE3_271 : Hid ((w16).heap[b3_3]? = some (.cells #[.int .i64 R.k, .int .i64 R.po, .int .i64 R.nu, .int .i64 R.tr] 40)) := grown_row (hg16) FE3_251.out (fun e => by have e_ := Option.some.inj e; have n0_ := N_4.out; have n1_ := N_8.out; have n2_ := N_13.out; have n3_ := N_18.out; have n4_ := N_28.out; have n5_ := N_29.out; have n6_ := N_30.out; have n7_ := N_31.out; have n8_ := N_41.out; have n9_ := N_54.out; have n10_ := N_56.out; have n11_ := N_68.out; have n12_ := N_70.out; have n13_ := N_83.out; have n14_ := N_99.out; have n15_ := N_101.out; have n16_ := N_121.out; have n17_ := N_122.out; have n18_ := N_123.out; have n19_ := N_124.out; have n20_ := N_144.out; have n21_ := N_164.out; have n22_ := N_184.out; have n23_ := N_204.out; have n24_ := N_224.out; have n25_ := N_244.out; have n26_ := N_264.out; omega)
  have FS3_272 : Hid (OwnN (w16) w2.heap.size gs3 N cs3 R.st) := FS3_252.out.grown (hg16) (by have n0_ := N_4.out; have n1_ := N_8.out; have n2_ := N_13.out; have n3_ := N_18.out; have n4_ := N_28.out; have n5_ := N_29.out; have n6_ := N_30.out; have n7_ := N_31.out; have n8_ := N_41.out; have n9_ := N_54.out; have n10_ := N_56.out; have n11_ := N_68.out; have n12_ := N_70.out; have n13_ := N_83.out; have n14_ := N_99.out; have n15_ := N_101.out; have n16_ := N_121.out; have n17_ := N_122.out; have n18_ := N_123.out; have n19_ := N_124.out; have n20_ := N_144.out; have n21_ := N_164.out; have n22_ := N_184.out; have n23_ := N_204.out; have n24_ := N_224.out; have n25_ := N_244.out; have n26_ := N_264.out; omega)
  have FA3_273 : Hid (OwnN (w16) w2.heap.size ga3 m ca3 R.ce) := FA3_253.out.grown (hg16) (by have n0_ := N_4.out; have n1_ := N_8.out; have n2_ := N_13.out; have n3_ := N_18.out; have n4_ := N_28.out; have n5_ := N_29.out; have n6_ := N_30.out; have n7_ := N_31.out; have n8_ := N_41.out; have n9_ := N_54.out; have n10_ := N_56.out; have n11_ := N_68.out; have n12_ := N_70.out; have n13_ := N_83.out; have n14_ := N_99.out; have n15_ := N_101.out; have n16_ := N_121.out; have n17_ := N_122.out; have n18_ := N_123.out; have n19_ := N_124.out; have n20_ := N_144.out; have n21_ := N_164.out; have n22_ := N_184.out; have n23_ := N_204.out; have n24_ := N_224.out; have n25_ := N_244.out; have n26_ := N_264.out; omega)
  have FI_274 : Hid (I.RowR (w16) g5 rl) := grown_row (hg16) FI_256.out (fun e => by have e_ := Option.some.inj e; have n0_ := N_4.out; have n1_ := N_8.out; have n2_ := N_13.out; have n3_ := N_18.out; have n4_ := N_28.out; have n5_ := N_29.out; have n6_ := N_30.out; have n7_ := N_31.out; have n8_ := N_41.out; have n9_ := N_54.out; have n10_ := N_56.out; have n11_ := N_68.out; have n12_ := N_70.out; have n13_ := N_83.out; have n14_ := N_99.out; have n15_ := N_101.out; have n16_ := N_121.out; have n17_ := N_122.out; have n18_ := N_123.out; have n19_ := N_124.out; have n20_ := N_144.out; have n21_ := N_164.out; have n22_ := N_184.out; have n23_ := N_204.out; have n24_ := N_224.out; have n25_ := N_244.out; have n26_ := N_264.out; omega)
  have FY_275 : Hid (RowAt (w16) g6 ce) := grown_row (hg16) FY_257.out (fun e => by have e_ := Option.some.inj e; have n0_ := N_4.out; have n1_ := N_8.out; have n2_ := N_13.out; have n3_ := N_18.out; have n4_ := N_28.out; have n5_ := N_29.out; have n6_ := N_30.out; have n7_ := N_31.out; have n8_ := N_41.out; have n9_ := N_54.out; have n10_ := N_56.out; have n11_ := N_68.out; have n12_ := N_70.out; have n13_ := N_83.out; have n14_ := N_99.out; have n15_ := N_101.out; have n16_ := N_121.out; have n17_ := N_122.out; have n18_ := N_123.out; have n19_ := N_124.out; have n20_ := N_144.out; have n21_ := N_164.out; have n22_ := N_184.out; have n23_ := N_204.out; have n24_ := N_224.out; have n25_ := N_244.out; have n26_ := N_264.out; omega)
  have FD_276 : Hid ((w16).heap[w6.heap.size]? = some (.cells #[.slice (some ⟨g6, 0, none⟩) m m] 38)) := grown_row (hg16) FD_258.out (fun e => by have e_ := Option.some.inj e; have n0_ := N_4.out; have n1_ := N_8.out; have n2_ := N_13.out; have n3_ := N_18.out; have n4_ := N_28.out; have n5_ := N_29.out; have n6_ := N_30.out; have n7_ := N_31.out; have n8_ := N_41.out; have n9_ := N_54.out; have n10_ := N_56.out; have n11_ := N_68.out; have n12_ := N_70.out; have n13_ := N_83.out; have n14_ := N_99.out; have n15_ := N_101.out; have n16_ := N_121.out; have n17_ := N_122.out; have n18_ := N_123.out; have n19_ := N_124.out; have n20_ := N_144.out; have n21_ := N_164.out; have n22_ := N_184.out; have n23_ := N_204.out; have n24_ := N_224.out; have n25_ := N_244.out; have n26_ := N_264.out; omega)
  have FP8_277 : Hid ((w16).heap[b1_8]? = some (.cells #[.int .i64 R.pc, .slice (some ⟨gs8, 0, none⟩) N cs8] 27)) := grown_row (hg16) FP8_259.out (fun e => by have e_ := Option.some.inj e; have n0_ := N_4.out; have n1_ := N_8.out; have n2_ := N_13.out; have n3_ := N_18.out; have n4_ := N_28.out; have n5_ := N_29.out; have n6_ := N_30.out; have n7_ := N_31.out; have n8_ := N_41.out; have n9_ := N_54.out; have n10_ := N_56.out; have n11_ := N_68.out; have n12_ := N_70.out; have n13_ := N_83.out; have n14_ := N_99.out; have n15_ := N_101.out; have n16_ := N_121.out; have n17_ := N_122.out; have n18_ := N_123.out; have n19_ := N_124.out; have n20_ := N_144.out; have n21_ := N_164.out; have n22_ := N_184.out; have n23_ := N_204.out; have n24_ := N_224.out; have n25_ := N_244.out; have n26_ := N_264.out; omega)
  have FQ8_278 : Hid ((w16).heap[b2_8]? = some (.cells #[.slice (some ⟨ga8, 0, none⟩) m ca8] 38)) := grown_row (hg16) FQ8_260.out (fun e => by have e_ := Option.some.inj e; have n0_ := N_4.out; have n1_ := N_8.out; have n2_ := N_13.out; have n3_ := N_18.out; have n4_ := N_28.out; have n5_ := N_29.out; have n6_ := N_30.out; have n7_ := N_31.out; have n8_ := N_41.out; have n9_ := N_54.out; have n10_ := N_56.out; have n11_ := N_68.out; have n12_ := N_70.out; have n13_ := N_83.out; have n14_ := N_99.out; have n15_ := N_101.out; have n16_ := N_121.out; have n17_ := N_122.out; have n18_ := N_123.out; have n19_ := N_124.out; have n20_ := N_144.out; have n21_ := N_164.out; have n22_ := N_184.out; have n23_ := N_204.out; have n24_ := N_224.out; have n25_ := N_244.out; have n26_ := N_264.out; omega)
  have FE8_279 : Hid ((w16).heap[b3_8]? = some (.cells #[.int .i64 R.k, .int .i64 R.po, .int .i64 R.nu, .int .i64 R.tr] 40)) := grown_row (hg16) FE8_261.out (fun e => by have e_ := Option.some.inj e; have n0_ := N_4.out; have n1_ := N_8.out; have n2_ := N_13.out; have n3_ := N_18.out; have n4_ := N_28.out; have n5_ := N_29.out; have n6_ := N_30.out; have n7_ := N_31.out; have n8_ := N_41.out; have n9_ := N_54.out; have n10_ := N_56.out; have n11_ := N_68.out; have n12_ := N_70.out; have n13_ := N_83.out; have n14_ := N_99.out; have n15_ := N_101.out; have n16_ := N_121.out; have n17_ := N_122.out; have n18_ := N_123.out; have n19_ := N_124.out; have n20_ := N_144.out; have n21_ := N_164.out; have n22_ := N_184.out; have n23_ := N_204.out; have n24_ := N_224.out; have n25_ := N_244.out; have n26_ := N_264.out; omega)
  have FS8_280 : Hid (OwnN (w16) W7.heap.size gs8 N cs8 R.st) := FS8_262.out.grown (hg16) (by have n0_ := N_4.out; have n1_ := N_8.out; have n2_ := N_13.out; have n3_ := N_18.out; have n4_ := N_28.out; have n5_ := N_29.out; have n6_ := N_30.out; have n7_ := N_31.out; have n8_ := N_41.out; have n9_ := N_54.out; have n10_ := N_56.out; have n11_ := N_68.out; have n12_ := N_70.out; have n13_ := N_83.out; have n14_ := N_99.out; have n15_ := N_101.out; have n16_ := N_121.out; have n17_ := N_122.out; have n18_ := N_123.out; have n19_ := N_124.out; have n20_ := N_144.out; have n21_ := N_164.out; have n22_ := N_184.out; have n23_ := N_204.out; have n24_ := N_224.out; have n25_ := N_244.out; have n26_ := N_264.out; omega)
  have FA8_281 : Hid (OwnN (w16) W7.heap.size ga8 m ca8 R.ce) := FA8_263.out.grown (hg16) (by have n0_ := N_4.out; have n1_ := N_8.out; have n2_ := N_13.out; have n3_ := N_18.out; have n4_ := N_28.out; have n5_ := N_29.out; have n6_ := N_30.out; have n7_ := N_31.out; have n8_ := N_41.out; have n9_ := N_54.out; have n10_ := N_56.out; have n11_ := N_68.out; have n12_ := N_70.out; have n13_ := N_83.out; have n14_ := N_99.out; have n15_ := N_101.out; have n16_ := N_121.out; have n17_ := N_122.out; have n18_ := N_123.out; have n19_ := N_124.out; have n20_ := N_144.out; have n21_ := N_164.out; have n22_ := N_184.out; have n23_ := N_204.out; have n24_ := N_224.out; have n25_ := N_244.out; have n26_ := N_264.out; omega)
  clear FW_245 FC_246 FR_247 FG_248 FP3_249 FQ3_250 FE3_251 FS3_252 FA3_253 FI_256 FY_257 FD_258 FP8_259 FQ8_260 FE8_261 FS8_262 FA8_263 hg16
  go_wp2_with fail
  refine (I.markInG rl g5 nc (1 + n) (1 + (n : Int)) (by omega) HLC.out hnc (by omega) _ FI_274.out).mono ?_
  rintro e w17 ⟨rfl, hg17⟩
  clear FI_274
  have N_282 : Hid ((w16).heap.size ≤ (w17).heap.size) := (hg17).size
  have FW_283 : Hid (Below w.heap.size w (w17)) := FW_265.out.grown (hg17) FW_265.out.size (fun k hk => by cases hk; exact (by have n0_ := N_4.out; have n1_ := N_8.out; have n2_ := N_13.out; have n3_ := N_18.out; have n4_ := N_28.out; have n5_ := N_29.out; have n6_ := N_30.out; have n7_ := N_31.out; have n8_ := N_41.out; have n9_ := N_54.out; have n10_ := N_56.out; have n11_ := N_68.out; have n12_ := N_70.out; have n13_ := N_83.out; have n14_ := N_99.out; have n15_ := N_101.out; have n16_ := N_121.out; have n17_ := N_122.out; have n18_ := N_123.out; have n19_ := N_124.out; have n20_ := N_144.out; have n21_ := N_164.out; have n22_ := N_184.out; have n23_ := N_204.out; have n24_ := N_224.out; have n25_ := N_244.out; have n26_ := N_264.out; have n27_ := N_282.out; omega))
  have FC_284 : Hid ((w17).heap[w.heap.size]? = some (.cells #[.int .i64 pc, .slice a n cap] 24)) := grown_row (hg17) FC_266.out (fun e => by have e_ := Option.some.inj e; have n0_ := N_4.out; have n1_ := N_8.out; have n2_ := N_13.out; have n3_ := N_18.out; have n4_ := N_28.out; have n5_ := N_29.out; have n6_ := N_30.out; have n7_ := N_31.out; have n8_ := N_41.out; have n9_ := N_54.out; have n10_ := N_56.out; have n11_ := N_68.out; have n12_ := N_70.out; have n13_ := N_83.out; have n14_ := N_99.out; have n15_ := N_101.out; have n16_ := N_121.out; have n17_ := N_122.out; have n18_ := N_123.out; have n19_ := N_124.out; have n20_ := N_144.out; have n21_ := N_164.out; have n22_ := N_184.out; have n23_ := N_204.out; have n24_ := N_224.out; have n25_ := N_244.out; have n26_ := N_264.out; have n27_ := N_282.out; omega)
  have FR_285 : Hid ((w17).heap[w.heap.size + 1]? = some (.cells #[.slice qa m ca] 33)) := grown_row (hg17) FR_267.out (fun e => by have e_ := Option.some.inj e; have n0_ := N_4.out; have n1_ := N_8.out; have n2_ := N_13.out; have n3_ := N_18.out; have n4_ := N_28.out; have n5_ := N_29.out; have n6_ := N_30.out; have n7_ := N_31.out; have n8_ := N_41.out; have n9_ := N_54.out; have n10_ := N_56.out; have n11_ := N_68.out; have n12_ := N_70.out; have n13_ := N_83.out; have n14_ := N_99.out; have n15_ := N_101.out; have n16_ := N_121.out; have n17_ := N_122.out; have n18_ := N_123.out; have n19_ := N_124.out; have n20_ := N_144.out; have n21_ := N_164.out; have n22_ := N_184.out; have n23_ := N_204.out; have n24_ := N_224.out; have n25_ := N_244.out; have n26_ := N_264.out; have n27_ := N_282.out; omega)
  have FG_286 : Hid ((w17).heap[w.heap.size + 1 + 1]? = some (.cells #[.int .i64 f, .int .i64 s] 35)) := grown_row (hg17) FG_268.out (fun e => by have e_ := Option.some.inj e; have n0_ := N_4.out; have n1_ := N_8.out; have n2_ := N_13.out; have n3_ := N_18.out; have n4_ := N_28.out; have n5_ := N_29.out; have n6_ := N_30.out; have n7_ := N_31.out; have n8_ := N_41.out; have n9_ := N_54.out; have n10_ := N_56.out; have n11_ := N_68.out; have n12_ := N_70.out; have n13_ := N_83.out; have n14_ := N_99.out; have n15_ := N_101.out; have n16_ := N_121.out; have n17_ := N_122.out; have n18_ := N_123.out; have n19_ := N_124.out; have n20_ := N_144.out; have n21_ := N_164.out; have n22_ := N_184.out; have n23_ := N_204.out; have n24_ := N_224.out; have n25_ := N_244.out; have n26_ := N_264.out; have n27_ := N_282.out; omega)
  have FP3_287 : Hid ((w17).heap[b1_3]? = some (.cells #[.int .i64 R.pc, .slice (some ⟨gs3, 0, none⟩) N cs3] 27)) := grown_row (hg17) FP3_269.out (fun e => by have e_ := Option.some.inj e; have n0_ := N_4.out; have n1_ := N_8.out; have n2_ := N_13.out; have n3_ := N_18.out; have n4_ := N_28.out; have n5_ := N_29.out; have n6_ := N_30.out; have n7_ := N_31.out; have n8_ := N_41.out; have n9_ := N_54.out; have n10_ := N_56.out; have n11_ := N_68.out; have n12_ := N_70.out; have n13_ := N_83.out; have n14_ := N_99.out; have n15_ := N_101.out; have n16_ := N_121.out; have n17_ := N_122.out; have n18_ := N_123.out; have n19_ := N_124.out; have n20_ := N_144.out; have n21_ := N_164.out; have n22_ := N_184.out; have n23_ := N_204.out; have n24_ := N_224.out; have n25_ := N_244.out; have n26_ := N_264.out; have n27_ := N_282.out; omega)
  have FQ3_288 : Hid ((w17).heap[b2_3]? = some (.cells #[.slice (some ⟨ga3, 0, none⟩) m ca3] 38)) := grown_row (hg17) FQ3_270.out (fun e => by have e_ := Option.some.inj e; have n0_ := N_4.out; have n1_ := N_8.out; have n2_ := N_13.out; have n3_ := N_18.out; have n4_ := N_28.out; have n5_ := N_29.out; have n6_ := N_30.out; have n7_ := N_31.out; have n8_ := N_41.out; have n9_ := N_54.out; have n10_ := N_56.out; have n11_ := N_68.out; have n12_ := N_70.out; have n13_ := N_83.out; have n14_ := N_99.out; have n15_ := N_101.out; have n16_ := N_121.out; have n17_ := N_122.out; have n18_ := N_123.out; have n19_ := N_124.out; have n20_ := N_144.out; have n21_ := N_164.out; have n22_ := N_184.out; have n23_ := N_204.out; have n24_ := N_224.out; have n25_ := N_244.out; have n26_ := N_264.out; have n27_ := N_282.out; omega)
  have FE3_289 : Hid ((w17).heap[b3_3]? = some (.cells #[.int .i64 R.k, .int .i64 R.po, .int .i64 R.nu, .int .i64 R.tr] 40)) := grown_row (hg17) FE3_271.out (fun e => by have e_ := Option.some.inj e; have n0_ := N_4.out; have n1_ := N_8.out; have n2_ := N_13.out; have n3_ := N_18.out; have n4_ := N_28.out; have n5_ := N_29.out; have n6_ := N_30.out; have n7_ := N_31.out; have n8_ := N_41.out; have n9_ := N_54.out; have n10_ := N_56.out; have n11_ := N_68.out; have n12_ := N_70.out; have n13_ := N_83.out; have n14_ := N_99.out; have n15_ := N_101.out; have n16_ := N_121.out; have n17_ := N_122.out; have n18_ := N_123.out; have n19_ := N_124.out; have n20_ := N_144.out; have n21_ := N_164.out; have n22_ := N_184.out; have n23_ := N_204.out; have n24_ := N_224.out; have n25_ := N_244.out; have n26_ := N_264.out; have n27_ := N_282.out; omega)
  have FS3_290 : Hid (OwnN (w17) w2.heap.size gs3 N cs3 R.st) := FS3_272.out.grown (hg17) (by have n0_ := N_4.out; have n1_ := N_8.out; have n2_ := N_13.out; have n3_ := N_18.out; have n4_ := N_28.out; have n5_ := N_29.out; have n6_ := N_30.out; have n7_ := N_31.out; have n8_ := N_41.out; have n9_ := N_54.out; have n10_ := N_56.out; have n11_ := N_68.out; have n12_ := N_70.out; have n13_ := N_83.out; have n14_ := N_99.out; have n15_ := N_101.out; have n16_ := N_121.out; have n17_ := N_122.out; have n18_ := N_123.out; have n19_ := N_124.out; have n20_ := N_144.out; have n21_ := N_164.out; have n22_ := N_184.out; have n23_ := N_204.out; have n24_ := N_224.out; have n25_ := N_244.out; have n26_ := N_264.out; have n27_ := N_282.out; omega)
  have FA3_291 : Hid (OwnN (w17) w2.heap.size ga3 m ca3 R.ce) := FA3_273.out.grown (hg17) (by have n0_ := N_4.out; have n1_ := N_8.out; have n2_ := N_13.out; have n3_ := N_18.out; have n4_ := N_28.out; have n5_ := N_29.out; have n6_ := N_30.out; have n7_ := N_31.out; have n8_ := N_41.out; have n9_ := N_54.out; have n10_ := N_56.out; have n11_ := N_68.out; have n12_ := N_70.out; have n13_ := N_83.out; have n14_ := N_99.out; have n15_ := N_101.out; have n16_ := N_121.out; have n17_ := N_122.out; have n18_ := N_123.out; have n19_ := N_124.out; have n20_ := N_144.out; have n21_ := N_164.out; have n22_ := N_184.out; have n23_ := N_204.out; have n24_ := N_224.out; have n25_ := N_244.out; have n26_ := N_264.out; have n27_ := N_282.out; omega)
  have FY_292 : Hid (RowAt (w17) g6 ce) := grown_row (hg17) FY_275.out (fun e => by have e_ := Option.some.inj e; have n0_ := N_4.out; have n1_ := N_8.out; have n2_ := N_13.out; have n3_ := N_18.out; have n4_ := N_28.out; have n5_ := N_29.out; have n6_ := N_30.out; have n7_ := N_31.out; have n8_ := N_41.out; have n9_ := N_54.out; have n10_ := N_56.out; have n11_ := N_68.out; have n12_ := N_70.out; have n13_ := N_83.out; have n14_ := N_99.out; have n15_ := N_101.out; have n16_ := N_121.out; have n17_ := N_122.out; have n18_ := N_123.out; have n19_ := N_124.out; have n20_ := N_144.out; have n21_ := N_164.out; have n22_ := N_184.out; have n23_ := N_204.out; have n24_ := N_224.out; have n25_ := N_244.out; have n26_ := N_264.out; have n27_ := N_282.out; omega)
  have FD_293 : Hid ((w17).heap[w6.heap.size]? = some (.cells #[.slice (some ⟨g6, 0, none⟩) m m] 38)) := grown_row (hg17) FD_276.out (fun e => by have e_ := Option.some.inj e; have n0_ := N_4.out; have n1_ := N_8.out; have n2_ := N_13.out; have n3_ := N_18.out; have n4_ := N_28.out; have n5_ := N_29.out; have n6_ := N_30.out; have n7_ := N_31.out; have n8_ := N_41.out; have n9_ := N_54.out; have n10_ := N_56.out; have n11_ := N_68.out; have n12_ := N_70.out; have n13_ := N_83.out; have n14_ := N_99.out; have n15_ := N_101.out; have n16_ := N_121.out; have n17_ := N_122.out; have n18_ := N_123.out; have n19_ := N_124.out; have n20_ := N_144.out; have n21_ := N_164.out; have n22_ := N_184.out; have n23_ := N_204.out; have n24_ := N_224.out; have n25_ := N_244.out; have n26_ := N_264.out; have n27_ := N_282.out; omega)
  have FP8_294 : Hid ((w17).heap[b1_8]? = some (.cells #[.int .i64 R.pc, .slice (some ⟨gs8, 0, none⟩) N cs8] 27)) := grown_row (hg17) FP8_277.out (fun e => by have e_ := Option.some.inj e; have n0_ := N_4.out; have n1_ := N_8.out; have n2_ := N_13.out; have n3_ := N_18.out; have n4_ := N_28.out; have n5_ := N_29.out; have n6_ := N_30.out; have n7_ := N_31.out; have n8_ := N_41.out; have n9_ := N_54.out; have n10_ := N_56.out; have n11_ := N_68.out; have n12_ := N_70.out; have n13_ := N_83.out; have n14_ := N_99.out; have n15_ := N_101.out; have n16_ := N_121.out; have n17_ := N_122.out; have n18_ := N_123.out; have n19_ := N_124.out; have n20_ := N_144.out; have n21_ := N_164.out; have n22_ := N_184.out; have n23_ := N_204.out; have n24_ := N_224.out; have n25_ := N_244.out; have n26_ := N_264.out; have n27_ := N_282.out; omega)
  have FQ8_295 : Hid ((w17).heap[b2_8]? = some (.cells #[.slice (some ⟨ga8, 0, none⟩) m ca8] 38)) := grown_row (hg17) FQ8_278.out (fun e => by have e_ := Option.some.inj e; have n0_ := N_4.out; have n1_ := N_8.out; have n2_ := N_13.out; have n3_ := N_18.out; have n4_ := N_28.out; have n5_ := N_29.out; have n6_ := N_30.out; have n7_ := N_31.out; have n8_ := N_41.out; have n9_ := N_54.out; have n10_ := N_56.out; have n11_ := N_68.out; have n12_ := N_70.out; have n13_ := N_83.out; have n14_ := N_99.out; have n15_ := N_101.out; have n16_ := N_121.out; have n17_ := N_122.out; have n18_ := N_123.out; have n19_ := N_124.out; have n20_ := N_144.out; have n21_ := N_164.out; have n22_ := N_184.out; have n23_ := N_204.out; have n24_ := N_224.out; have n25_ := N_244.out; have n26_ := N_264.out; have n27_ := N_282.out; omega)
  have FE8_296 : Hid ((w17).heap[b3_8]? = some (.cells #[.int .i64 R.k, .int .i64 R.po, .int .i64 R.nu, .int .i64 R.tr] 40)) := grown_row (hg17) FE8_279.out (fun e => by have e_ := Option.some.inj e; have n0_ := N_4.out; have n1_ := N_8.out; have n2_ := N_13.out; have n3_ := N_18.out; have n4_ := N_28.out; have n5_ := N_29.out; have n6_ := N_30.out; have n7_ := N_31.out; have n8_ := N_41.out; have n9_ := N_54.out; have n10_ := N_56.out; have n11_ := N_68.out; have n12_ := N_70.out; have n13_ := N_83.out; have n14_ := N_99.out; have n15_ := N_101.out; have n16_ := N_121.out; have n17_ := N_122.out; have n18_ := N_123.out; have n19_ := N_124.out; have n20_ := N_144.out; have n21_ := N_164.out; have n22_ := N_184.out; have n23_ := N_204.out; have n24_ := N_224.out; have n25_ := N_244.out; have n26_ := N_264.out; have n27_ := N_282.out; omega)
  have FS8_297 : Hid (OwnN (w17) W7.heap.size gs8 N cs8 R.st) := FS8_280.out.grown (hg17) (by have n0_ := N_4.out; have n1_ := N_8.out; have n2_ := N_13.out; have n3_ := N_18.out; have n4_ := N_28.out; have n5_ := N_29.out; have n6_ := N_30.out; have n7_ := N_31.out; have n8_ := N_41.out; have n9_ := N_54.out; have n10_ := N_56.out; have n11_ := N_68.out; have n12_ := N_70.out; have n13_ := N_83.out; have n14_ := N_99.out; have n15_ := N_101.out; have n16_ := N_121.out; have n17_ := N_122.out; have n18_ := N_123.out; have n19_ := N_124.out; have n20_ := N_144.out; have n21_ := N_164.out; have n22_ := N_184.out; have n23_ := N_204.out; have n24_ := N_224.out; have n25_ := N_244.out; have n26_ := N_264.out; have n27_ := N_282.out; omega)
  have FA8_298 : Hid (OwnN (w17) W7.heap.size ga8 m ca8 R.ce) := FA8_281.out.grown (hg17) (by have n0_ := N_4.out; have n1_ := N_8.out; have n2_ := N_13.out; have n3_ := N_18.out; have n4_ := N_28.out; have n5_ := N_29.out; have n6_ := N_30.out; have n7_ := N_31.out; have n8_ := N_41.out; have n9_ := N_54.out; have n10_ := N_56.out; have n11_ := N_68.out; have n12_ := N_70.out; have n13_ := N_83.out; have n14_ := N_99.out; have n15_ := N_101.out; have n16_ := N_121.out; have n17_ := N_122.out; have n18_ := N_123.out; have n19_ := N_124.out; have n20_ := N_144.out; have n21_ := N_164.out; have n22_ := N_184.out; have n23_ := N_204.out; have n24_ := N_224.out; have n25_ := N_244.out; have n26_ := N_264.out; have n27_ := N_282.out; omega)
  clear FW_265 FC_266 FR_267 FG_268 FP3_269 FQ3_270 FE3_271 FS3_272 FA3_273 FY_275 FD_276 FP8_277 FQ8_278 FE8_279 FS8_280 FA8_281 hg17
  have kD := row1_cells FD_293.out
  go_wp2_with fail
  clear kD
  refine (markAr _ g6 ce m m (1 + n + 2 * nc) (1 + (n : Int) + 2 * (nc : Int)) (by omega) hm (by omega) _ (RowAt.ownN (B := w.heap.size) FY_292.out (by have n0_ := N_4.out; have n1_ := N_8.out; have n2_ := N_13.out; have n3_ := N_18.out; have n4_ := N_28.out; have n5_ := N_29.out; have n6_ := N_30.out; have n7_ := N_31.out; have n8_ := N_41.out; have n9_ := N_54.out; have n10_ := N_56.out; have n11_ := N_68.out; have n12_ := N_70.out; have n13_ := N_83.out; have n14_ := N_99.out; have n15_ := N_101.out; have n16_ := N_121.out; have n17_ := N_122.out; have n18_ := N_123.out; have n19_ := N_124.out; have n20_ := N_144.out; have n21_ := N_164.out; have n22_ := N_184.out; have n23_ := N_204.out; have n24_ := N_224.out; have n25_ := N_244.out; have n26_ := N_264.out; have n27_ := N_282.out; omega) HLA.out hm)).mono ?_
  rintro e w18 ⟨rfl, _, hg18⟩
  clear FY_292
  clear FD_293
  have N_299 : Hid ((w17).heap.size ≤ (w18).heap.size) := (hg18).size
  have FW_300 : Hid (Below w.heap.size w (w18)) := FW_283.out.grown (hg18) FW_283.out.size (fun k hk => by cases hk; exact (by have n0_ := N_4.out; have n1_ := N_8.out; have n2_ := N_13.out; have n3_ := N_18.out; have n4_ := N_28.out; have n5_ := N_29.out; have n6_ := N_30.out; have n7_ := N_31.out; have n8_ := N_41.out; have n9_ := N_54.out; have n10_ := N_56.out; have n11_ := N_68.out; have n12_ := N_70.out; have n13_ := N_83.out; have n14_ := N_99.out; have n15_ := N_101.out; have n16_ := N_121.out; have n17_ := N_122.out; have n18_ := N_123.out; have n19_ := N_124.out; have n20_ := N_144.out; have n21_ := N_164.out; have n22_ := N_184.out; have n23_ := N_204.out; have n24_ := N_224.out; have n25_ := N_244.out; have n26_ := N_264.out; have n27_ := N_282.out; have n28_ := N_299.out; omega))
  have FC_301 : Hid ((w18).heap[w.heap.size]? = some (.cells #[.int .i64 pc, .slice a n cap] 24)) := grown_row (hg18) FC_284.out (fun e => by have e_ := Option.some.inj e; have n0_ := N_4.out; have n1_ := N_8.out; have n2_ := N_13.out; have n3_ := N_18.out; have n4_ := N_28.out; have n5_ := N_29.out; have n6_ := N_30.out; have n7_ := N_31.out; have n8_ := N_41.out; have n9_ := N_54.out; have n10_ := N_56.out; have n11_ := N_68.out; have n12_ := N_70.out; have n13_ := N_83.out; have n14_ := N_99.out; have n15_ := N_101.out; have n16_ := N_121.out; have n17_ := N_122.out; have n18_ := N_123.out; have n19_ := N_124.out; have n20_ := N_144.out; have n21_ := N_164.out; have n22_ := N_184.out; have n23_ := N_204.out; have n24_ := N_224.out; have n25_ := N_244.out; have n26_ := N_264.out; have n27_ := N_282.out; have n28_ := N_299.out; omega)
  have FR_302 : Hid ((w18).heap[w.heap.size + 1]? = some (.cells #[.slice qa m ca] 33)) := grown_row (hg18) FR_285.out (fun e => by have e_ := Option.some.inj e; have n0_ := N_4.out; have n1_ := N_8.out; have n2_ := N_13.out; have n3_ := N_18.out; have n4_ := N_28.out; have n5_ := N_29.out; have n6_ := N_30.out; have n7_ := N_31.out; have n8_ := N_41.out; have n9_ := N_54.out; have n10_ := N_56.out; have n11_ := N_68.out; have n12_ := N_70.out; have n13_ := N_83.out; have n14_ := N_99.out; have n15_ := N_101.out; have n16_ := N_121.out; have n17_ := N_122.out; have n18_ := N_123.out; have n19_ := N_124.out; have n20_ := N_144.out; have n21_ := N_164.out; have n22_ := N_184.out; have n23_ := N_204.out; have n24_ := N_224.out; have n25_ := N_244.out; have n26_ := N_264.out; have n27_ := N_282.out; have n28_ := N_299.out; omega)
  have FG_303 : Hid ((w18).heap[w.heap.size + 1 + 1]? = some (.cells #[.int .i64 f, .int .i64 s] 35)) := grown_row (hg18) FG_286.out (fun e => by have e_ := Option.some.inj e; have n0_ := N_4.out; have n1_ := N_8.out; have n2_ := N_13.out; have n3_ := N_18.out; have n4_ := N_28.out; have n5_ := N_29.out; have n6_ := N_30.out; have n7_ := N_31.out; have n8_ := N_41.out; have n9_ := N_54.out; have n10_ := N_56.out; have n11_ := N_68.out; have n12_ := N_70.out; have n13_ := N_83.out; have n14_ := N_99.out; have n15_ := N_101.out; have n16_ := N_121.out; have n17_ := N_122.out; have n18_ := N_123.out; have n19_ := N_124.out; have n20_ := N_144.out; have n21_ := N_164.out; have n22_ := N_184.out; have n23_ := N_204.out; have n24_ := N_224.out; have n25_ := N_244.out; have n26_ := N_264.out; have n27_ := N_282.out; have n28_ := N_299.out; omega)
  have FP3_304 : Hid ((w18).heap[b1_3]? = some (.cells #[.int .i64 R.pc, .slice (some ⟨gs3, 0, none⟩) N cs3] 27)) := grown_row (hg18) FP3_287.out (fun e => by have e_ := Option.some.inj e; have n0_ := N_4.out; have n1_ := N_8.out; have n2_ := N_13.out; have n3_ := N_18.out; have n4_ := N_28.out; have n5_ := N_29.out; have n6_ := N_30.out; have n7_ := N_31.out; have n8_ := N_41.out; have n9_ := N_54.out; have n10_ := N_56.out; have n11_ := N_68.out; have n12_ := N_70.out; have n13_ := N_83.out; have n14_ := N_99.out; have n15_ := N_101.out; have n16_ := N_121.out; have n17_ := N_122.out; have n18_ := N_123.out; have n19_ := N_124.out; have n20_ := N_144.out; have n21_ := N_164.out; have n22_ := N_184.out; have n23_ := N_204.out; have n24_ := N_224.out; have n25_ := N_244.out; have n26_ := N_264.out; have n27_ := N_282.out; have n28_ := N_299.out; omega)
  have FQ3_305 : Hid ((w18).heap[b2_3]? = some (.cells #[.slice (some ⟨ga3, 0, none⟩) m ca3] 38)) := grown_row (hg18) FQ3_288.out (fun e => by have e_ := Option.some.inj e; have n0_ := N_4.out; have n1_ := N_8.out; have n2_ := N_13.out; have n3_ := N_18.out; have n4_ := N_28.out; have n5_ := N_29.out; have n6_ := N_30.out; have n7_ := N_31.out; have n8_ := N_41.out; have n9_ := N_54.out; have n10_ := N_56.out; have n11_ := N_68.out; have n12_ := N_70.out; have n13_ := N_83.out; have n14_ := N_99.out; have n15_ := N_101.out; have n16_ := N_121.out; have n17_ := N_122.out; have n18_ := N_123.out; have n19_ := N_124.out; have n20_ := N_144.out; have n21_ := N_164.out; have n22_ := N_184.out; have n23_ := N_204.out; have n24_ := N_224.out; have n25_ := N_244.out; have n26_ := N_264.out; have n27_ := N_282.out; have n28_ := N_299.out; omega)
  have FE3_306 : Hid ((w18).heap[b3_3]? = some (.cells #[.int .i64 R.k, .int .i64 R.po, .int .i64 R.nu, .int .i64 R.tr] 40)) := grown_row (hg18) FE3_289.out (fun e => by have e_ := Option.some.inj e; have n0_ := N_4.out; have n1_ := N_8.out; have n2_ := N_13.out; have n3_ := N_18.out; have n4_ := N_28.out; have n5_ := N_29.out; have n6_ := N_30.out; have n7_ := N_31.out; have n8_ := N_41.out; have n9_ := N_54.out; have n10_ := N_56.out; have n11_ := N_68.out; have n12_ := N_70.out; have n13_ := N_83.out; have n14_ := N_99.out; have n15_ := N_101.out; have n16_ := N_121.out; have n17_ := N_122.out; have n18_ := N_123.out; have n19_ := N_124.out; have n20_ := N_144.out; have n21_ := N_164.out; have n22_ := N_184.out; have n23_ := N_204.out; have n24_ := N_224.out; have n25_ := N_244.out; have n26_ := N_264.out; have n27_ := N_282.out; have n28_ := N_299.out; omega)
  have FS3_307 : Hid (OwnN (w18) w2.heap.size gs3 N cs3 R.st) := FS3_290.out.grown (hg18) (by have n0_ := N_4.out; have n1_ := N_8.out; have n2_ := N_13.out; have n3_ := N_18.out; have n4_ := N_28.out; have n5_ := N_29.out; have n6_ := N_30.out; have n7_ := N_31.out; have n8_ := N_41.out; have n9_ := N_54.out; have n10_ := N_56.out; have n11_ := N_68.out; have n12_ := N_70.out; have n13_ := N_83.out; have n14_ := N_99.out; have n15_ := N_101.out; have n16_ := N_121.out; have n17_ := N_122.out; have n18_ := N_123.out; have n19_ := N_124.out; have n20_ := N_144.out; have n21_ := N_164.out; have n22_ := N_184.out; have n23_ := N_204.out; have n24_ := N_224.out; have n25_ := N_244.out; have n26_ := N_264.out; have n27_ := N_282.out; have n28_ := N_299.out; omega)
  have FA3_308 : Hid (OwnN (w18) w2.heap.size ga3 m ca3 R.ce) := FA3_291.out.grown (hg18) (by have n0_ := N_4.out; have n1_ := N_8.out; have n2_ := N_13.out; have n3_ := N_18.out; have n4_ := N_28.out; have n5_ := N_29.out; have n6_ := N_30.out; have n7_ := N_31.out; have n8_ := N_41.out; have n9_ := N_54.out; have n10_ := N_56.out; have n11_ := N_68.out; have n12_ := N_70.out; have n13_ := N_83.out; have n14_ := N_99.out; have n15_ := N_101.out; have n16_ := N_121.out; have n17_ := N_122.out; have n18_ := N_123.out; have n19_ := N_124.out; have n20_ := N_144.out; have n21_ := N_164.out; have n22_ := N_184.out; have n23_ := N_204.out; have n24_ := N_224.out; have n25_ := N_244.out; have n26_ := N_264.out; have n27_ := N_282.out; have n28_ := N_299.out; omega)
  have FP8_309 : Hid ((w18).heap[b1_8]? = some (.cells #[.int .i64 R.pc, .slice (some ⟨gs8, 0, none⟩) N cs8] 27)) := grown_row (hg18) FP8_294.out (fun e => by have e_ := Option.some.inj e; have n0_ := N_4.out; have n1_ := N_8.out; have n2_ := N_13.out; have n3_ := N_18.out; have n4_ := N_28.out; have n5_ := N_29.out; have n6_ := N_30.out; have n7_ := N_31.out; have n8_ := N_41.out; have n9_ := N_54.out; have n10_ := N_56.out; have n11_ := N_68.out; have n12_ := N_70.out; have n13_ := N_83.out; have n14_ := N_99.out; have n15_ := N_101.out; have n16_ := N_121.out; have n17_ := N_122.out; have n18_ := N_123.out; have n19_ := N_124.out; have n20_ := N_144.out; have n21_ := N_164.out; have n22_ := N_184.out; have n23_ := N_204.out; have n24_ := N_224.out; have n25_ := N_244.out; have n26_ := N_264.out; have n27_ := N_282.out; have n28_ := N_299.out; omega)
  have FQ8_310 : Hid ((w18).heap[b2_8]? = some (.cells #[.slice (some ⟨ga8, 0, none⟩) m ca8] 38)) := grown_row (hg18) FQ8_295.out (fun e => by have e_ := Option.some.inj e; have n0_ := N_4.out; have n1_ := N_8.out; have n2_ := N_13.out; have n3_ := N_18.out; have n4_ := N_28.out; have n5_ := N_29.out; have n6_ := N_30.out; have n7_ := N_31.out; have n8_ := N_41.out; have n9_ := N_54.out; have n10_ := N_56.out; have n11_ := N_68.out; have n12_ := N_70.out; have n13_ := N_83.out; have n14_ := N_99.out; have n15_ := N_101.out; have n16_ := N_121.out; have n17_ := N_122.out; have n18_ := N_123.out; have n19_ := N_124.out; have n20_ := N_144.out; have n21_ := N_164.out; have n22_ := N_184.out; have n23_ := N_204.out; have n24_ := N_224.out; have n25_ := N_244.out; have n26_ := N_264.out; have n27_ := N_282.out; have n28_ := N_299.out; omega)
  have FE8_311 : Hid ((w18).heap[b3_8]? = some (.cells #[.int .i64 R.k, .int .i64 R.po, .int .i64 R.nu, .int .i64 R.tr] 40)) := grown_row (hg18) FE8_296.out (fun e => by have e_ := Option.some.inj e; have n0_ := N_4.out; have n1_ := N_8.out; have n2_ := N_13.out; have n3_ := N_18.out; have n4_ := N_28.out; have n5_ := N_29.out; have n6_ := N_30.out; have n7_ := N_31.out; have n8_ := N_41.out; have n9_ := N_54.out; have n10_ := N_56.out; have n11_ := N_68.out; have n12_ := N_70.out; have n13_ := N_83.out; have n14_ := N_99.out; have n15_ := N_101.out; have n16_ := N_121.out; have n17_ := N_122.out; have n18_ := N_123.out; have n19_ := N_124.out; have n20_ := N_144.out; have n21_ := N_164.out; have n22_ := N_184.out; have n23_ := N_204.out; have n24_ := N_224.out; have n25_ := N_244.out; have n26_ := N_264.out; have n27_ := N_282.out; have n28_ := N_299.out; omega)
  have FS8_312 : Hid (OwnN (w18) W7.heap.size gs8 N cs8 R.st) := FS8_297.out.grown (hg18) (by have n0_ := N_4.out; have n1_ := N_8.out; have n2_ := N_13.out; have n3_ := N_18.out; have n4_ := N_28.out; have n5_ := N_29.out; have n6_ := N_30.out; have n7_ := N_31.out; have n8_ := N_41.out; have n9_ := N_54.out; have n10_ := N_56.out; have n11_ := N_68.out; have n12_ := N_70.out; have n13_ := N_83.out; have n14_ := N_99.out; have n15_ := N_101.out; have n16_ := N_121.out; have n17_ := N_122.out; have n18_ := N_123.out; have n19_ := N_124.out; have n20_ := N_144.out; have n21_ := N_164.out; have n22_ := N_184.out; have n23_ := N_204.out; have n24_ := N_224.out; have n25_ := N_244.out; have n26_ := N_264.out; have n27_ := N_282.out; have n28_ := N_299.out; omega)
  have FA8_313 : Hid (OwnN (w18) W7.heap.size ga8 m ca8 R.ce) := FA8_298.out.grown (hg18) (by have n0_ := N_4.out; have n1_ := N_8.out; have n2_ := N_13.out; have n3_ := N_18.out; have n4_ := N_28.out; have n5_ := N_29.out; have n6_ := N_30.out; have n7_ := N_31.out; have n8_ := N_41.out; have n9_ := N_54.out; have n10_ := N_56.out; have n11_ := N_68.out; have n12_ := N_70.out; have n13_ := N_83.out; have n14_ := N_99.out; have n15_ := N_101.out; have n16_ := N_121.out; have n17_ := N_122.out; have n18_ := N_123.out; have n19_ := N_124.out; have n20_ := N_144.out; have n21_ := N_164.out; have n22_ := N_184.out; have n23_ := N_204.out; have n24_ := N_224.out; have n25_ := N_244.out; have n26_ := N_264.out; have n27_ := N_282.out; have n28_ := N_299.out; omega)
  clear FW_283 FC_284 FR_285 FG_286 FP3_287 FQ3_288 FE3_289 FS3_290 FA3_291 FP8_294 FQ8_295 FE8_296 FS8_297 FA8_298 hg18
  have hkk : ¬ (1 + (n : Int) + 2 * (nc : Int) + (m : Int) < 0) := by omega
  have kP8 := row2_cells FP8_309.out
  have kP3 := row2_cells FP3_304.out
  go_wp2_with fail
  clear kP8 kP3
  refine (eqC (some ⟨gs8, 0, none⟩) (some ⟨gs3, 0, none⟩) R.pc R.st N cs8 cs3 HNN.out HN1.out _ FS8_312.out.rd FS3_307.out.rd).mono ?_
  rintro e w19 ⟨rfl, hb19⟩
  have N_314 : Hid ((w18).heap.size ≤ (w19).heap.size) := (hb19).size
  have FW_315 : Hid (Below w.heap.size w (w19)) := bel_on (Nat.le_refl _) FW_300.out (hb19)
  have FC_316 : Hid ((w19).heap[w.heap.size]? = some (.cells #[.int .i64 pc, .slice a n cap] 24)) := row_on FC_301.out (hb19)
  have FR_317 : Hid ((w19).heap[w.heap.size + 1]? = some (.cells #[.slice qa m ca] 33)) := row_on FR_302.out (hb19)
  have FG_318 : Hid ((w19).heap[w.heap.size + 1 + 1]? = some (.cells #[.int .i64 f, .int .i64 s] 35)) := row_on FG_303.out (hb19)
  have FP3_319 : Hid ((w19).heap[b1_3]? = some (.cells #[.int .i64 R.pc, .slice (some ⟨gs3, 0, none⟩) N cs3] 27)) := row_on FP3_304.out (hb19)
  have FQ3_320 : Hid ((w19).heap[b2_3]? = some (.cells #[.slice (some ⟨ga3, 0, none⟩) m ca3] 38)) := row_on FQ3_305.out (hb19)
  have FE3_321 : Hid ((w19).heap[b3_3]? = some (.cells #[.int .i64 R.k, .int .i64 R.po, .int .i64 R.nu, .int .i64 R.tr] 40)) := row_on FE3_306.out (hb19)
  have FS3_322 : Hid (OwnN (w19) w2.heap.size gs3 N cs3 R.st) := FS3_307.out.on (hb19)
  have FA3_323 : Hid (OwnN (w19) w2.heap.size ga3 m ca3 R.ce) := FA3_308.out.on (hb19)
  have FP8_324 : Hid ((w19).heap[b1_8]? = some (.cells #[.int .i64 R.pc, .slice (some ⟨gs8, 0, none⟩) N cs8] 27)) := row_on FP8_309.out (hb19)
  have FQ8_325 : Hid ((w19).heap[b2_8]? = some (.cells #[.slice (some ⟨ga8, 0, none⟩) m ca8] 38)) := row_on FQ8_310.out (hb19)
  have FE8_326 : Hid ((w19).heap[b3_8]? = some (.cells #[.int .i64 R.k, .int .i64 R.po, .int .i64 R.nu, .int .i64 R.tr] 40)) := row_on FE8_311.out (hb19)
  have FS8_327 : Hid (OwnN (w19) W7.heap.size gs8 N cs8 R.st) := FS8_312.out.on (hb19)
  have FA8_328 : Hid (OwnN (w19) W7.heap.size ga8 m ca8 R.ce) := FA8_313.out.on (hb19)
  clear FW_300 FC_301 FR_302 FG_303 FP3_304 FQ3_305 FE3_306 FS3_307 FA3_308 FP8_309 FQ8_310 FE8_311 FS8_312 FA8_313 hb19
  have kQ8 := row1_cells FQ8_325.out
  have kQ3 := row1_cells FQ3_320.out
  go_wp2_with fail
  clear kQ8 kQ3
  refine (eqA (some ⟨ga8, 0, none⟩) (some ⟨ga3, 0, none⟩) R.ce m ca8 ca3 HCE.out hm _ FA8_328.out.rd FA3_323.out.rd).mono ?_
  rintro e w20 ⟨rfl, hb20⟩
  have N_329 : Hid ((w19).heap.size ≤ (w20).heap.size) := (hb20).size
  have FW_330 : Hid (Below w.heap.size w (w20)) := bel_on (Nat.le_refl _) FW_315.out (hb20)
  have FC_331 : Hid ((w20).heap[w.heap.size]? = some (.cells #[.int .i64 pc, .slice a n cap] 24)) := row_on FC_316.out (hb20)
  have FR_332 : Hid ((w20).heap[w.heap.size + 1]? = some (.cells #[.slice qa m ca] 33)) := row_on FR_317.out (hb20)
  have FG_333 : Hid ((w20).heap[w.heap.size + 1 + 1]? = some (.cells #[.int .i64 f, .int .i64 s] 35)) := row_on FG_318.out (hb20)
  have FP3_334 : Hid ((w20).heap[b1_3]? = some (.cells #[.int .i64 R.pc, .slice (some ⟨gs3, 0, none⟩) N cs3] 27)) := row_on FP3_319.out (hb20)
  have FQ3_335 : Hid ((w20).heap[b2_3]? = some (.cells #[.slice (some ⟨ga3, 0, none⟩) m ca3] 38)) := row_on FQ3_320.out (hb20)
  have FE3_336 : Hid ((w20).heap[b3_3]? = some (.cells #[.int .i64 R.k, .int .i64 R.po, .int .i64 R.nu, .int .i64 R.tr] 40)) := row_on FE3_321.out (hb20)
  have FS3_337 : Hid (OwnN (w20) w2.heap.size gs3 N cs3 R.st) := FS3_322.out.on (hb20)
  have FA3_338 : Hid (OwnN (w20) w2.heap.size ga3 m ca3 R.ce) := FA3_323.out.on (hb20)
  have FP8_339 : Hid ((w20).heap[b1_8]? = some (.cells #[.int .i64 R.pc, .slice (some ⟨gs8, 0, none⟩) N cs8] 27)) := row_on FP8_324.out (hb20)
  have FQ8_340 : Hid ((w20).heap[b2_8]? = some (.cells #[.slice (some ⟨ga8, 0, none⟩) m ca8] 38)) := row_on FQ8_325.out (hb20)
  have FE8_341 : Hid ((w20).heap[b3_8]? = some (.cells #[.int .i64 R.k, .int .i64 R.po, .int .i64 R.nu, .int .i64 R.tr] 40)) := row_on FE8_326.out (hb20)
  have FS8_342 : Hid (OwnN (w20) W7.heap.size gs8 N cs8 R.st) := FS8_327.out.on (hb20)
  have FA8_343 : Hid (OwnN (w20) W7.heap.size ga8 m ca8 R.ce) := FA8_328.out.on (hb20)
  clear FW_315 FC_316 FR_317 FG_318 FP3_319 FQ3_320 FE3_321 FS3_322 FA3_323 FP8_324 FQ8_325 FE8_326 FS8_327 FA8_328 hb20
  have kE8 := row4_cells FE8_341.out
  have kE3 := row4_cells FE3_336.out
  go_wp2_with fail
  clear kE8 kE3
  refine (eqE R.k R.po R.nu R.tr _).mono ?_
  rintro e w21 ⟨rfl, hb21⟩
  have N_344 : Hid ((w20).heap.size ≤ (w21).heap.size) := (hb21).size
  have FW_345 : Hid (Below w.heap.size w (w21)) := bel_on (Nat.le_refl _) FW_330.out (hb21)
  have FC_346 : Hid ((w21).heap[w.heap.size]? = some (.cells #[.int .i64 pc, .slice a n cap] 24)) := row_on FC_331.out (hb21)
  have FR_347 : Hid ((w21).heap[w.heap.size + 1]? = some (.cells #[.slice qa m ca] 33)) := row_on FR_332.out (hb21)
  have FG_348 : Hid ((w21).heap[w.heap.size + 1 + 1]? = some (.cells #[.int .i64 f, .int .i64 s] 35)) := row_on FG_333.out (hb21)
  have FP3_349 : Hid ((w21).heap[b1_3]? = some (.cells #[.int .i64 R.pc, .slice (some ⟨gs3, 0, none⟩) N cs3] 27)) := row_on FP3_334.out (hb21)
  have FQ3_350 : Hid ((w21).heap[b2_3]? = some (.cells #[.slice (some ⟨ga3, 0, none⟩) m ca3] 38)) := row_on FQ3_335.out (hb21)
  have FE3_351 : Hid ((w21).heap[b3_3]? = some (.cells #[.int .i64 R.k, .int .i64 R.po, .int .i64 R.nu, .int .i64 R.tr] 40)) := row_on FE3_336.out (hb21)
  have FS3_352 : Hid (OwnN (w21) w2.heap.size gs3 N cs3 R.st) := FS3_337.out.on (hb21)
  have FA3_353 : Hid (OwnN (w21) w2.heap.size ga3 m ca3 R.ce) := FA3_338.out.on (hb21)
  have FP8_354 : Hid ((w21).heap[b1_8]? = some (.cells #[.int .i64 R.pc, .slice (some ⟨gs8, 0, none⟩) N cs8] 27)) := row_on FP8_339.out (hb21)
  have FQ8_355 : Hid ((w21).heap[b2_8]? = some (.cells #[.slice (some ⟨ga8, 0, none⟩) m ca8] 38)) := row_on FQ8_340.out (hb21)
  have FE8_356 : Hid ((w21).heap[b3_8]? = some (.cells #[.int .i64 R.k, .int .i64 R.po, .int .i64 R.nu, .int .i64 R.tr] 40)) := row_on FE8_341.out (hb21)
  have FS8_357 : Hid (OwnN (w21) W7.heap.size gs8 N cs8 R.st) := FS8_342.out.on (hb21)
  have FA8_358 : Hid (OwnN (w21) W7.heap.size ga8 m ca8 R.ce) := FA8_343.out.on (hb21)
  clear FW_330 FC_331 FR_332 FG_333 FP3_334 FQ3_335 FE3_336 FS3_337 FA3_338 FP8_339 FQ8_340 FE8_341 FS8_342 FA8_343 hb21
  have kP8 := row2_cells FP8_354.out
  go_wp2_with fail
  clear kP8 hkk
  refine (markC _ gs8 R.pc R.st N cs8 1 1 rfl HN1.out (by omega) _ FS8_357.out).mono ?_
  rintro e w22 ⟨rfl, hown22, hg22⟩
  clear FS8_357
  have N_359 : Hid ((w21).heap.size ≤ (w22).heap.size) := (hg22).size
  have FW_360 : Hid (Below w.heap.size w (w22)) := FW_345.out.grown (hg22) FW_345.out.size (fun k hk => by cases hk; exact (by have n0_ := N_4.out; have n1_ := N_8.out; have n2_ := N_13.out; have n3_ := N_18.out; have n4_ := N_28.out; have n5_ := N_29.out; have n6_ := N_30.out; have n7_ := N_31.out; have n8_ := N_41.out; have n9_ := N_54.out; have n10_ := N_56.out; have n11_ := N_68.out; have n12_ := N_70.out; have n13_ := N_83.out; have n14_ := N_99.out; have n15_ := N_101.out; have n16_ := N_121.out; have n17_ := N_122.out; have n18_ := N_123.out; have n19_ := N_124.out; have n20_ := N_144.out; have n21_ := N_164.out; have n22_ := N_184.out; have n23_ := N_204.out; have n24_ := N_224.out; have n25_ := N_244.out; have n26_ := N_264.out; have n27_ := N_282.out; have n28_ := N_299.out; have n29_ := N_314.out; have n30_ := N_329.out; have n31_ := N_344.out; have n32_ := N_359.out; omega))
  have FC_361 : Hid ((w22).heap[w.heap.size]? = some (.cells #[.int .i64 pc, .slice a n cap] 24)) := grown_row (hg22) FC_346.out (fun e => by have e_ := Option.some.inj e; have n0_ := N_4.out; have n1_ := N_8.out; have n2_ := N_13.out; have n3_ := N_18.out; have n4_ := N_28.out; have n5_ := N_29.out; have n6_ := N_30.out; have n7_ := N_31.out; have n8_ := N_41.out; have n9_ := N_54.out; have n10_ := N_56.out; have n11_ := N_68.out; have n12_ := N_70.out; have n13_ := N_83.out; have n14_ := N_99.out; have n15_ := N_101.out; have n16_ := N_121.out; have n17_ := N_122.out; have n18_ := N_123.out; have n19_ := N_124.out; have n20_ := N_144.out; have n21_ := N_164.out; have n22_ := N_184.out; have n23_ := N_204.out; have n24_ := N_224.out; have n25_ := N_244.out; have n26_ := N_264.out; have n27_ := N_282.out; have n28_ := N_299.out; have n29_ := N_314.out; have n30_ := N_329.out; have n31_ := N_344.out; have n32_ := N_359.out; omega)
  have FR_362 : Hid ((w22).heap[w.heap.size + 1]? = some (.cells #[.slice qa m ca] 33)) := grown_row (hg22) FR_347.out (fun e => by have e_ := Option.some.inj e; have n0_ := N_4.out; have n1_ := N_8.out; have n2_ := N_13.out; have n3_ := N_18.out; have n4_ := N_28.out; have n5_ := N_29.out; have n6_ := N_30.out; have n7_ := N_31.out; have n8_ := N_41.out; have n9_ := N_54.out; have n10_ := N_56.out; have n11_ := N_68.out; have n12_ := N_70.out; have n13_ := N_83.out; have n14_ := N_99.out; have n15_ := N_101.out; have n16_ := N_121.out; have n17_ := N_122.out; have n18_ := N_123.out; have n19_ := N_124.out; have n20_ := N_144.out; have n21_ := N_164.out; have n22_ := N_184.out; have n23_ := N_204.out; have n24_ := N_224.out; have n25_ := N_244.out; have n26_ := N_264.out; have n27_ := N_282.out; have n28_ := N_299.out; have n29_ := N_314.out; have n30_ := N_329.out; have n31_ := N_344.out; have n32_ := N_359.out; omega)
  have FG_363 : Hid ((w22).heap[w.heap.size + 1 + 1]? = some (.cells #[.int .i64 f, .int .i64 s] 35)) := grown_row (hg22) FG_348.out (fun e => by have e_ := Option.some.inj e; have n0_ := N_4.out; have n1_ := N_8.out; have n2_ := N_13.out; have n3_ := N_18.out; have n4_ := N_28.out; have n5_ := N_29.out; have n6_ := N_30.out; have n7_ := N_31.out; have n8_ := N_41.out; have n9_ := N_54.out; have n10_ := N_56.out; have n11_ := N_68.out; have n12_ := N_70.out; have n13_ := N_83.out; have n14_ := N_99.out; have n15_ := N_101.out; have n16_ := N_121.out; have n17_ := N_122.out; have n18_ := N_123.out; have n19_ := N_124.out; have n20_ := N_144.out; have n21_ := N_164.out; have n22_ := N_184.out; have n23_ := N_204.out; have n24_ := N_224.out; have n25_ := N_244.out; have n26_ := N_264.out; have n27_ := N_282.out; have n28_ := N_299.out; have n29_ := N_314.out; have n30_ := N_329.out; have n31_ := N_344.out; have n32_ := N_359.out; omega)
  have FP3_364 : Hid ((w22).heap[b1_3]? = some (.cells #[.int .i64 R.pc, .slice (some ⟨gs3, 0, none⟩) N cs3] 27)) := grown_row (hg22) FP3_349.out (fun e => by have e_ := Option.some.inj e; have n0_ := N_4.out; have n1_ := N_8.out; have n2_ := N_13.out; have n3_ := N_18.out; have n4_ := N_28.out; have n5_ := N_29.out; have n6_ := N_30.out; have n7_ := N_31.out; have n8_ := N_41.out; have n9_ := N_54.out; have n10_ := N_56.out; have n11_ := N_68.out; have n12_ := N_70.out; have n13_ := N_83.out; have n14_ := N_99.out; have n15_ := N_101.out; have n16_ := N_121.out; have n17_ := N_122.out; have n18_ := N_123.out; have n19_ := N_124.out; have n20_ := N_144.out; have n21_ := N_164.out; have n22_ := N_184.out; have n23_ := N_204.out; have n24_ := N_224.out; have n25_ := N_244.out; have n26_ := N_264.out; have n27_ := N_282.out; have n28_ := N_299.out; have n29_ := N_314.out; have n30_ := N_329.out; have n31_ := N_344.out; have n32_ := N_359.out; omega)
  have FQ3_365 : Hid ((w22).heap[b2_3]? = some (.cells #[.slice (some ⟨ga3, 0, none⟩) m ca3] 38)) := grown_row (hg22) FQ3_350.out (fun e => by have e_ := Option.some.inj e; have n0_ := N_4.out; have n1_ := N_8.out; have n2_ := N_13.out; have n3_ := N_18.out; have n4_ := N_28.out; have n5_ := N_29.out; have n6_ := N_30.out; have n7_ := N_31.out; have n8_ := N_41.out; have n9_ := N_54.out; have n10_ := N_56.out; have n11_ := N_68.out; have n12_ := N_70.out; have n13_ := N_83.out; have n14_ := N_99.out; have n15_ := N_101.out; have n16_ := N_121.out; have n17_ := N_122.out; have n18_ := N_123.out; have n19_ := N_124.out; have n20_ := N_144.out; have n21_ := N_164.out; have n22_ := N_184.out; have n23_ := N_204.out; have n24_ := N_224.out; have n25_ := N_244.out; have n26_ := N_264.out; have n27_ := N_282.out; have n28_ := N_299.out; have n29_ := N_314.out; have n30_ := N_329.out; have n31_ := N_344.out; have n32_ := N_359.out; omega)
  have FE3_366 : Hid ((w22).heap[b3_3]? = some (.cells #[.int .i64 R.k, .int .i64 R.po, .int .i64 R.nu, .int .i64 R.tr] 40)) := grown_row (hg22) FE3_351.out (fun e => by have e_ := Option.some.inj e; have n0_ := N_4.out; have n1_ := N_8.out; have n2_ := N_13.out; have n3_ := N_18.out; have n4_ := N_28.out; have n5_ := N_29.out; have n6_ := N_30.out; have n7_ := N_31.out; have n8_ := N_41.out; have n9_ := N_54.out; have n10_ := N_56.out; have n11_ := N_68.out; have n12_ := N_70.out; have n13_ := N_83.out; have n14_ := N_99.out; have n15_ := N_101.out; have n16_ := N_121.out; have n17_ := N_122.out; have n18_ := N_123.out; have n19_ := N_124.out; have n20_ := N_144.out; have n21_ := N_164.out; have n22_ := N_184.out; have n23_ := N_204.out; have n24_ := N_224.out; have n25_ := N_244.out; have n26_ := N_264.out; have n27_ := N_282.out; have n28_ := N_299.out; have n29_ := N_314.out; have n30_ := N_329.out; have n31_ := N_344.out; have n32_ := N_359.out; omega)
  have FS3_367 : Hid (OwnN (w22) w2.heap.size gs3 N cs3 R.st) := FS3_352.out.grown (hg22) (by have n0_ := N_4.out; have n1_ := N_8.out; have n2_ := N_13.out; have n3_ := N_18.out; have n4_ := N_28.out; have n5_ := N_29.out; have n6_ := N_30.out; have n7_ := N_31.out; have n8_ := N_41.out; have n9_ := N_54.out; have n10_ := N_56.out; have n11_ := N_68.out; have n12_ := N_70.out; have n13_ := N_83.out; have n14_ := N_99.out; have n15_ := N_101.out; have n16_ := N_121.out; have n17_ := N_122.out; have n18_ := N_123.out; have n19_ := N_124.out; have n20_ := N_144.out; have n21_ := N_164.out; have n22_ := N_184.out; have n23_ := N_204.out; have n24_ := N_224.out; have n25_ := N_244.out; have n26_ := N_264.out; have n27_ := N_282.out; have n28_ := N_299.out; have n29_ := N_314.out; have n30_ := N_329.out; have n31_ := N_344.out; have n32_ := N_359.out; omega)
  have FA3_368 : Hid (OwnN (w22) w2.heap.size ga3 m ca3 R.ce) := FA3_353.out.grown (hg22) (by have n0_ := N_4.out; have n1_ := N_8.out; have n2_ := N_13.out; have n3_ := N_18.out; have n4_ := N_28.out; have n5_ := N_29.out; have n6_ := N_30.out; have n7_ := N_31.out; have n8_ := N_41.out; have n9_ := N_54.out; have n10_ := N_56.out; have n11_ := N_68.out; have n12_ := N_70.out; have n13_ := N_83.out; have n14_ := N_99.out; have n15_ := N_101.out; have n16_ := N_121.out; have n17_ := N_122.out; have n18_ := N_123.out; have n19_ := N_124.out; have n20_ := N_144.out; have n21_ := N_164.out; have n22_ := N_184.out; have n23_ := N_204.out; have n24_ := N_224.out; have n25_ := N_244.out; have n26_ := N_264.out; have n27_ := N_282.out; have n28_ := N_299.out; have n29_ := N_314.out; have n30_ := N_329.out; have n31_ := N_344.out; have n32_ := N_359.out; omega)
  have FP8_369 : Hid ((w22).heap[b1_8]? = some (.cells #[.int .i64 R.pc, .slice (some ⟨gs8, 0, none⟩) N cs8] 27)) := grown_row (hg22) FP8_354.out (fun e => by have e_ := Option.some.inj e; have n0_ := N_4.out; have n1_ := N_8.out; have n2_ := N_13.out; have n3_ := N_18.out; have n4_ := N_28.out; have n5_ := N_29.out; have n6_ := N_30.out; have n7_ := N_31.out; have n8_ := N_41.out; have n9_ := N_54.out; have n10_ := N_56.out; have n11_ := N_68.out; have n12_ := N_70.out; have n13_ := N_83.out; have n14_ := N_99.out; have n15_ := N_101.out; have n16_ := N_121.out; have n17_ := N_122.out; have n18_ := N_123.out; have n19_ := N_124.out; have n20_ := N_144.out; have n21_ := N_164.out; have n22_ := N_184.out; have n23_ := N_204.out; have n24_ := N_224.out; have n25_ := N_244.out; have n26_ := N_264.out; have n27_ := N_282.out; have n28_ := N_299.out; have n29_ := N_314.out; have n30_ := N_329.out; have n31_ := N_344.out; have n32_ := N_359.out; omega)
  have FQ8_370 : Hid ((w22).heap[b2_8]? = some (.cells #[.slice (some ⟨ga8, 0, none⟩) m ca8] 38)) := grown_row (hg22) FQ8_355.out (fun e => by have e_ := Option.some.inj e; have n0_ := N_4.out; have n1_ := N_8.out; have n2_ := N_13.out; have n3_ := N_18.out; have n4_ := N_28.out; have n5_ := N_29.out; have n6_ := N_30.out; have n7_ := N_31.out; have n8_ := N_41.out; have n9_ := N_54.out; have n10_ := N_56.out; have n11_ := N_68.out; have n12_ := N_70.out; have n13_ := N_83.out; have n14_ := N_99.out; have n15_ := N_101.out; have n16_ := N_121.out; have n17_ := N_122.out; have n18_ := N_123.out; have n19_ := N_124.out; have n20_ := N_144.out; have n21_ := N_164.out; have n22_ := N_184.out; have n23_ := N_204.out; have n24_ := N_224.out; have n25_ := N_244.out; have n26_ := N_264.out; have n27_ := N_282.out; have n28_ := N_299.out; have n29_ := N_314.out; have n30_ := N_329.out; have n31_ := N_344.out; have n32_ := N_359.out; omega)
  have FE8_371 : Hid ((w22).heap[b3_8]? = some (.cells #[.int .i64 R.k, .int .i64 R.po, .int .i64 R.nu, .int .i64 R.tr] 40)) := grown_row (hg22) FE8_356.out (fun e => by have e_ := Option.some.inj e; have n0_ := N_4.out; have n1_ := N_8.out; have n2_ := N_13.out; have n3_ := N_18.out; have n4_ := N_28.out; have n5_ := N_29.out; have n6_ := N_30.out; have n7_ := N_31.out; have n8_ := N_41.out; have n9_ := N_54.out; have n10_ := N_56.out; have n11_ := N_68.out; have n12_ := N_70.out; have n13_ := N_83.out; have n14_ := N_99.out; have n15_ := N_101.out; have n16_ := N_121.out; have n17_ := N_122.out; have n18_ := N_123.out; have n19_ := N_124.out; have n20_ := N_144.out; have n21_ := N_164.out; have n22_ := N_184.out; have n23_ := N_204.out; have n24_ := N_224.out; have n25_ := N_244.out; have n26_ := N_264.out; have n27_ := N_282.out; have n28_ := N_299.out; have n29_ := N_314.out; have n30_ := N_329.out; have n31_ := N_344.out; have n32_ := N_359.out; omega)
  have FA8_372 : Hid (OwnN (w22) W7.heap.size ga8 m ca8 R.ce) := FA8_358.out.grown (hg22) (by have n0_ := N_4.out; have n1_ := N_8.out; have n2_ := N_13.out; have n3_ := N_18.out; have n4_ := N_28.out; have n5_ := N_29.out; have n6_ := N_30.out; have n7_ := N_31.out; have n8_ := N_41.out; have n9_ := N_54.out; have n10_ := N_56.out; have n11_ := N_68.out; have n12_ := N_70.out; have n13_ := N_83.out; have n14_ := N_99.out; have n15_ := N_101.out; have n16_ := N_121.out; have n17_ := N_122.out; have n18_ := N_123.out; have n19_ := N_124.out; have n20_ := N_144.out; have n21_ := N_164.out; have n22_ := N_184.out; have n23_ := N_204.out; have n24_ := N_224.out; have n25_ := N_244.out; have n26_ := N_264.out; have n27_ := N_282.out; have n28_ := N_299.out; have n29_ := N_314.out; have n30_ := N_329.out; have n31_ := N_344.out; have n32_ := N_359.out; omega)
  clear FW_345 FC_346 FR_347 FG_348 FP3_349 FQ3_350 FE3_351 FS3_352 FA3_353 FP8_354 FQ8_355 FE8_356 FA8_358 hg22
  have FS8_373 : Hid (OwnN (w22) W7.heap.size gs8 N cs8 (marks 1 N)) := hown22
  clear hown22
  have kQ8 := row1_cells FQ8_370.out
  go_wp2_with fail
  clear kQ8
  refine (markAr _ ga8 R.ce m ca8 (1 + N) (1 + (N : Int)) (by omega) hm (by omega) _ FA8_372.out).mono ?_
  rintro e w23 ⟨rfl, hown23, hg23⟩
  clear FA8_372
  have N_374 : Hid ((w22).heap.size ≤ (w23).heap.size) := (hg23).size
  have FW_375 : Hid (Below w.heap.size w (w23)) := FW_360.out.grown (hg23) FW_360.out.size (fun k hk => by cases hk; exact (by have n0_ := N_4.out; have n1_ := N_8.out; have n2_ := N_13.out; have n3_ := N_18.out; have n4_ := N_28.out; have n5_ := N_29.out; have n6_ := N_30.out; have n7_ := N_31.out; have n8_ := N_41.out; have n9_ := N_54.out; have n10_ := N_56.out; have n11_ := N_68.out; have n12_ := N_70.out; have n13_ := N_83.out; have n14_ := N_99.out; have n15_ := N_101.out; have n16_ := N_121.out; have n17_ := N_122.out; have n18_ := N_123.out; have n19_ := N_124.out; have n20_ := N_144.out; have n21_ := N_164.out; have n22_ := N_184.out; have n23_ := N_204.out; have n24_ := N_224.out; have n25_ := N_244.out; have n26_ := N_264.out; have n27_ := N_282.out; have n28_ := N_299.out; have n29_ := N_314.out; have n30_ := N_329.out; have n31_ := N_344.out; have n32_ := N_359.out; have n33_ := N_374.out; omega))
  have FC_376 : Hid ((w23).heap[w.heap.size]? = some (.cells #[.int .i64 pc, .slice a n cap] 24)) := grown_row (hg23) FC_361.out (fun e => by have e_ := Option.some.inj e; have n0_ := N_4.out; have n1_ := N_8.out; have n2_ := N_13.out; have n3_ := N_18.out; have n4_ := N_28.out; have n5_ := N_29.out; have n6_ := N_30.out; have n7_ := N_31.out; have n8_ := N_41.out; have n9_ := N_54.out; have n10_ := N_56.out; have n11_ := N_68.out; have n12_ := N_70.out; have n13_ := N_83.out; have n14_ := N_99.out; have n15_ := N_101.out; have n16_ := N_121.out; have n17_ := N_122.out; have n18_ := N_123.out; have n19_ := N_124.out; have n20_ := N_144.out; have n21_ := N_164.out; have n22_ := N_184.out; have n23_ := N_204.out; have n24_ := N_224.out; have n25_ := N_244.out; have n26_ := N_264.out; have n27_ := N_282.out; have n28_ := N_299.out; have n29_ := N_314.out; have n30_ := N_329.out; have n31_ := N_344.out; have n32_ := N_359.out; have n33_ := N_374.out; omega)
  have FR_377 : Hid ((w23).heap[w.heap.size + 1]? = some (.cells #[.slice qa m ca] 33)) := grown_row (hg23) FR_362.out (fun e => by have e_ := Option.some.inj e; have n0_ := N_4.out; have n1_ := N_8.out; have n2_ := N_13.out; have n3_ := N_18.out; have n4_ := N_28.out; have n5_ := N_29.out; have n6_ := N_30.out; have n7_ := N_31.out; have n8_ := N_41.out; have n9_ := N_54.out; have n10_ := N_56.out; have n11_ := N_68.out; have n12_ := N_70.out; have n13_ := N_83.out; have n14_ := N_99.out; have n15_ := N_101.out; have n16_ := N_121.out; have n17_ := N_122.out; have n18_ := N_123.out; have n19_ := N_124.out; have n20_ := N_144.out; have n21_ := N_164.out; have n22_ := N_184.out; have n23_ := N_204.out; have n24_ := N_224.out; have n25_ := N_244.out; have n26_ := N_264.out; have n27_ := N_282.out; have n28_ := N_299.out; have n29_ := N_314.out; have n30_ := N_329.out; have n31_ := N_344.out; have n32_ := N_359.out; have n33_ := N_374.out; omega)
  have FG_378 : Hid ((w23).heap[w.heap.size + 1 + 1]? = some (.cells #[.int .i64 f, .int .i64 s] 35)) := grown_row (hg23) FG_363.out (fun e => by have e_ := Option.some.inj e; have n0_ := N_4.out; have n1_ := N_8.out; have n2_ := N_13.out; have n3_ := N_18.out; have n4_ := N_28.out; have n5_ := N_29.out; have n6_ := N_30.out; have n7_ := N_31.out; have n8_ := N_41.out; have n9_ := N_54.out; have n10_ := N_56.out; have n11_ := N_68.out; have n12_ := N_70.out; have n13_ := N_83.out; have n14_ := N_99.out; have n15_ := N_101.out; have n16_ := N_121.out; have n17_ := N_122.out; have n18_ := N_123.out; have n19_ := N_124.out; have n20_ := N_144.out; have n21_ := N_164.out; have n22_ := N_184.out; have n23_ := N_204.out; have n24_ := N_224.out; have n25_ := N_244.out; have n26_ := N_264.out; have n27_ := N_282.out; have n28_ := N_299.out; have n29_ := N_314.out; have n30_ := N_329.out; have n31_ := N_344.out; have n32_ := N_359.out; have n33_ := N_374.out; omega)
  have FP3_379 : Hid ((w23).heap[b1_3]? = some (.cells #[.int .i64 R.pc, .slice (some ⟨gs3, 0, none⟩) N cs3] 27)) := grown_row (hg23) FP3_364.out (fun e => by have e_ := Option.some.inj e; have n0_ := N_4.out; have n1_ := N_8.out; have n2_ := N_13.out; have n3_ := N_18.out; have n4_ := N_28.out; have n5_ := N_29.out; have n6_ := N_30.out; have n7_ := N_31.out; have n8_ := N_41.out; have n9_ := N_54.out; have n10_ := N_56.out; have n11_ := N_68.out; have n12_ := N_70.out; have n13_ := N_83.out; have n14_ := N_99.out; have n15_ := N_101.out; have n16_ := N_121.out; have n17_ := N_122.out; have n18_ := N_123.out; have n19_ := N_124.out; have n20_ := N_144.out; have n21_ := N_164.out; have n22_ := N_184.out; have n23_ := N_204.out; have n24_ := N_224.out; have n25_ := N_244.out; have n26_ := N_264.out; have n27_ := N_282.out; have n28_ := N_299.out; have n29_ := N_314.out; have n30_ := N_329.out; have n31_ := N_344.out; have n32_ := N_359.out; have n33_ := N_374.out; omega)
  have FQ3_380 : Hid ((w23).heap[b2_3]? = some (.cells #[.slice (some ⟨ga3, 0, none⟩) m ca3] 38)) := grown_row (hg23) FQ3_365.out (fun e => by have e_ := Option.some.inj e; have n0_ := N_4.out; have n1_ := N_8.out; have n2_ := N_13.out; have n3_ := N_18.out; have n4_ := N_28.out; have n5_ := N_29.out; have n6_ := N_30.out; have n7_ := N_31.out; have n8_ := N_41.out; have n9_ := N_54.out; have n10_ := N_56.out; have n11_ := N_68.out; have n12_ := N_70.out; have n13_ := N_83.out; have n14_ := N_99.out; have n15_ := N_101.out; have n16_ := N_121.out; have n17_ := N_122.out; have n18_ := N_123.out; have n19_ := N_124.out; have n20_ := N_144.out; have n21_ := N_164.out; have n22_ := N_184.out; have n23_ := N_204.out; have n24_ := N_224.out; have n25_ := N_244.out; have n26_ := N_264.out; have n27_ := N_282.out; have n28_ := N_299.out; have n29_ := N_314.out; have n30_ := N_329.out; have n31_ := N_344.out; have n32_ := N_359.out; have n33_ := N_374.out; omega)
  have FE3_381 : Hid ((w23).heap[b3_3]? = some (.cells #[.int .i64 R.k, .int .i64 R.po, .int .i64 R.nu, .int .i64 R.tr] 40)) := grown_row (hg23) FE3_366.out (fun e => by have e_ := Option.some.inj e; have n0_ := N_4.out; have n1_ := N_8.out; have n2_ := N_13.out; have n3_ := N_18.out; have n4_ := N_28.out; have n5_ := N_29.out; have n6_ := N_30.out; have n7_ := N_31.out; have n8_ := N_41.out; have n9_ := N_54.out; have n10_ := N_56.out; have n11_ := N_68.out; have n12_ := N_70.out; have n13_ := N_83.out; have n14_ := N_99.out; have n15_ := N_101.out; have n16_ := N_121.out; have n17_ := N_122.out; have n18_ := N_123.out; have n19_ := N_124.out; have n20_ := N_144.out; have n21_ := N_164.out; have n22_ := N_184.out; have n23_ := N_204.out; have n24_ := N_224.out; have n25_ := N_244.out; have n26_ := N_264.out; have n27_ := N_282.out; have n28_ := N_299.out; have n29_ := N_314.out; have n30_ := N_329.out; have n31_ := N_344.out; have n32_ := N_359.out; have n33_ := N_374.out; omega)
  have FS3_382 : Hid (OwnN (w23) w2.heap.size gs3 N cs3 R.st) := FS3_367.out.grown (hg23) (by have n0_ := N_4.out; have n1_ := N_8.out; have n2_ := N_13.out; have n3_ := N_18.out; have n4_ := N_28.out; have n5_ := N_29.out; have n6_ := N_30.out; have n7_ := N_31.out; have n8_ := N_41.out; have n9_ := N_54.out; have n10_ := N_56.out; have n11_ := N_68.out; have n12_ := N_70.out; have n13_ := N_83.out; have n14_ := N_99.out; have n15_ := N_101.out; have n16_ := N_121.out; have n17_ := N_122.out; have n18_ := N_123.out; have n19_ := N_124.out; have n20_ := N_144.out; have n21_ := N_164.out; have n22_ := N_184.out; have n23_ := N_204.out; have n24_ := N_224.out; have n25_ := N_244.out; have n26_ := N_264.out; have n27_ := N_282.out; have n28_ := N_299.out; have n29_ := N_314.out; have n30_ := N_329.out; have n31_ := N_344.out; have n32_ := N_359.out; have n33_ := N_374.out; omega)
  have FA3_383 : Hid (OwnN (w23) w2.heap.size ga3 m ca3 R.ce) := FA3_368.out.grown (hg23) (by have n0_ := N_4.out; have n1_ := N_8.out; have n2_ := N_13.out; have n3_ := N_18.out; have n4_ := N_28.out; have n5_ := N_29.out; have n6_ := N_30.out; have n7_ := N_31.out; have n8_ := N_41.out; have n9_ := N_54.out; have n10_ := N_56.out; have n11_ := N_68.out; have n12_ := N_70.out; have n13_ := N_83.out; have n14_ := N_99.out; have n15_ := N_101.out; have n16_ := N_121.out; have n17_ := N_122.out; have n18_ := N_123.out; have n19_ := N_124.out; have n20_ := N_144.out; have n21_ := N_164.out; have n22_ := N_184.out; have n23_ := N_204.out; have n24_ := N_224.out; have n25_ := N_244.out; have n26_ := N_264.out; have n27_ := N_282.out; have n28_ := N_299.out; have n29_ := N_314.out; have n30_ := N_329.out; have n31_ := N_344.out; have n32_ := N_359.out; have n33_ := N_374.out; omega)
  have FP8_384 : Hid ((w23).heap[b1_8]? = some (.cells #[.int .i64 R.pc, .slice (some ⟨gs8, 0, none⟩) N cs8] 27)) := grown_row (hg23) FP8_369.out (fun e => by have e_ := Option.some.inj e; have n0_ := N_4.out; have n1_ := N_8.out; have n2_ := N_13.out; have n3_ := N_18.out; have n4_ := N_28.out; have n5_ := N_29.out; have n6_ := N_30.out; have n7_ := N_31.out; have n8_ := N_41.out; have n9_ := N_54.out; have n10_ := N_56.out; have n11_ := N_68.out; have n12_ := N_70.out; have n13_ := N_83.out; have n14_ := N_99.out; have n15_ := N_101.out; have n16_ := N_121.out; have n17_ := N_122.out; have n18_ := N_123.out; have n19_ := N_124.out; have n20_ := N_144.out; have n21_ := N_164.out; have n22_ := N_184.out; have n23_ := N_204.out; have n24_ := N_224.out; have n25_ := N_244.out; have n26_ := N_264.out; have n27_ := N_282.out; have n28_ := N_299.out; have n29_ := N_314.out; have n30_ := N_329.out; have n31_ := N_344.out; have n32_ := N_359.out; have n33_ := N_374.out; omega)
  have FQ8_385 : Hid ((w23).heap[b2_8]? = some (.cells #[.slice (some ⟨ga8, 0, none⟩) m ca8] 38)) := grown_row (hg23) FQ8_370.out (fun e => by have e_ := Option.some.inj e; have n0_ := N_4.out; have n1_ := N_8.out; have n2_ := N_13.out; have n3_ := N_18.out; have n4_ := N_28.out; have n5_ := N_29.out; have n6_ := N_30.out; have n7_ := N_31.out; have n8_ := N_41.out; have n9_ := N_54.out; have n10_ := N_56.out; have n11_ := N_68.out; have n12_ := N_70.out; have n13_ := N_83.out; have n14_ := N_99.out; have n15_ := N_101.out; have n16_ := N_121.out; have n17_ := N_122.out; have n18_ := N_123.out; have n19_ := N_124.out; have n20_ := N_144.out; have n21_ := N_164.out; have n22_ := N_184.out; have n23_ := N_204.out; have n24_ := N_224.out; have n25_ := N_244.out; have n26_ := N_264.out; have n27_ := N_282.out; have n28_ := N_299.out; have n29_ := N_314.out; have n30_ := N_329.out; have n31_ := N_344.out; have n32_ := N_359.out; have n33_ := N_374.out; omega)
  have FE8_386 : Hid ((w23).heap[b3_8]? = some (.cells #[.int .i64 R.k, .int .i64 R.po, .int .i64 R.nu, .int .i64 R.tr] 40)) := grown_row (hg23) FE8_371.out (fun e => by have e_ := Option.some.inj e; have n0_ := N_4.out; have n1_ := N_8.out; have n2_ := N_13.out; have n3_ := N_18.out; have n4_ := N_28.out; have n5_ := N_29.out; have n6_ := N_30.out; have n7_ := N_31.out; have n8_ := N_41.out; have n9_ := N_54.out; have n10_ := N_56.out; have n11_ := N_68.out; have n12_ := N_70.out; have n13_ := N_83.out; have n14_ := N_99.out; have n15_ := N_101.out; have n16_ := N_121.out; have n17_ := N_122.out; have n18_ := N_123.out; have n19_ := N_124.out; have n20_ := N_144.out; have n21_ := N_164.out; have n22_ := N_184.out; have n23_ := N_204.out; have n24_ := N_224.out; have n25_ := N_244.out; have n26_ := N_264.out; have n27_ := N_282.out; have n28_ := N_299.out; have n29_ := N_314.out; have n30_ := N_329.out; have n31_ := N_344.out; have n32_ := N_359.out; have n33_ := N_374.out; omega)
  have FS8_387 : Hid (OwnN (w23) W7.heap.size gs8 N cs8 (marks 1 N)) := FS8_373.out.grown (hg23) (by have n0_ := N_4.out; have n1_ := N_8.out; have n2_ := N_13.out; have n3_ := N_18.out; have n4_ := N_28.out; have n5_ := N_29.out; have n6_ := N_30.out; have n7_ := N_31.out; have n8_ := N_41.out; have n9_ := N_54.out; have n10_ := N_56.out; have n11_ := N_68.out; have n12_ := N_70.out; have n13_ := N_83.out; have n14_ := N_99.out; have n15_ := N_101.out; have n16_ := N_121.out; have n17_ := N_122.out; have n18_ := N_123.out; have n19_ := N_124.out; have n20_ := N_144.out; have n21_ := N_164.out; have n22_ := N_184.out; have n23_ := N_204.out; have n24_ := N_224.out; have n25_ := N_244.out; have n26_ := N_264.out; have n27_ := N_282.out; have n28_ := N_299.out; have n29_ := N_314.out; have n30_ := N_329.out; have n31_ := N_344.out; have n32_ := N_359.out; have n33_ := N_374.out; omega)
  clear FW_360 FC_361 FR_362 FG_363 FP3_364 FQ3_365 FE3_366 FS3_367 FA3_368 FP8_369 FQ8_370 FE8_371 FS8_373 hg23
  have FA8_388 : Hid (OwnN (w23) W7.heap.size ga8 m ca8 (marks (1 + N) m)) := hown23
  clear hown23
  have hq1 : ¬ (1 + (N : Int) < 0) := by omega
  have hq2 : ¬ (1 + (N : Int) + (m : Int) < 0) := by omega
  have kP8 := row2_cells FP8_384.out
  go_wp2_with fail
  clear kP8
  refine (heldC (some ⟨gs8, 0, none⟩) R.pc N cs8 1 1 rfl HN1.out (by omega) _ FS8_387.out.rd).mono ?_
  rintro e w24 ⟨rfl, hb24⟩
  have N_389 : Hid ((w23).heap.size ≤ (w24).heap.size) := (hb24).size
  have FW_390 : Hid (Below w.heap.size w (w24)) := bel_on (Nat.le_refl _) FW_375.out (hb24)
  have FC_391 : Hid ((w24).heap[w.heap.size]? = some (.cells #[.int .i64 pc, .slice a n cap] 24)) := row_on FC_376.out (hb24)
  have FR_392 : Hid ((w24).heap[w.heap.size + 1]? = some (.cells #[.slice qa m ca] 33)) := row_on FR_377.out (hb24)
  have FG_393 : Hid ((w24).heap[w.heap.size + 1 + 1]? = some (.cells #[.int .i64 f, .int .i64 s] 35)) := row_on FG_378.out (hb24)
  have FP3_394 : Hid ((w24).heap[b1_3]? = some (.cells #[.int .i64 R.pc, .slice (some ⟨gs3, 0, none⟩) N cs3] 27)) := row_on FP3_379.out (hb24)
  have FQ3_395 : Hid ((w24).heap[b2_3]? = some (.cells #[.slice (some ⟨ga3, 0, none⟩) m ca3] 38)) := row_on FQ3_380.out (hb24)
  have FE3_396 : Hid ((w24).heap[b3_3]? = some (.cells #[.int .i64 R.k, .int .i64 R.po, .int .i64 R.nu, .int .i64 R.tr] 40)) := row_on FE3_381.out (hb24)
  have FS3_397 : Hid (OwnN (w24) w2.heap.size gs3 N cs3 R.st) := FS3_382.out.on (hb24)
  have FA3_398 : Hid (OwnN (w24) w2.heap.size ga3 m ca3 R.ce) := FA3_383.out.on (hb24)
  have FP8_399 : Hid ((w24).heap[b1_8]? = some (.cells #[.int .i64 R.pc, .slice (some ⟨gs8, 0, none⟩) N cs8] 27)) := row_on FP8_384.out (hb24)
  have FQ8_400 : Hid ((w24).heap[b2_8]? = some (.cells #[.slice (some ⟨ga8, 0, none⟩) m ca8] 38)) := row_on FQ8_385.out (hb24)
  have FE8_401 : Hid ((w24).heap[b3_8]? = some (.cells #[.int .i64 R.k, .int .i64 R.po, .int .i64 R.nu, .int .i64 R.tr] 40)) := row_on FE8_386.out (hb24)
  have FS8_402 : Hid (OwnN (w24) W7.heap.size gs8 N cs8 (marks 1 N)) := FS8_387.out.on (hb24)
  have FA8_403 : Hid (OwnN (w24) W7.heap.size ga8 m ca8 (marks (1 + N) m)) := FA8_388.out.on (hb24)
  clear FW_375 FC_376 FR_377 FG_378 FP3_379 FQ3_380 FE3_381 FS3_382 FA3_383 FP8_384 FQ8_385 FE8_386 FS8_387 FA8_388 hb24
  have kQ8 := row1_cells FQ8_400.out
  go_wp2_with fail
  clear kQ8
  refine (heldAr (some ⟨ga8, 0, none⟩) m ca8 (1 + N) (1 + (N : Int)) (by omega) hm (by omega) _ FA8_403.out.rd).mono ?_
  rintro e w25 ⟨rfl, hb25⟩
  have N_404 : Hid ((w24).heap.size ≤ (w25).heap.size) := (hb25).size
  have FW_405 : Hid (Below w.heap.size w (w25)) := bel_on (Nat.le_refl _) FW_390.out (hb25)
  have FC_406 : Hid ((w25).heap[w.heap.size]? = some (.cells #[.int .i64 pc, .slice a n cap] 24)) := row_on FC_391.out (hb25)
  have FR_407 : Hid ((w25).heap[w.heap.size + 1]? = some (.cells #[.slice qa m ca] 33)) := row_on FR_392.out (hb25)
  have FG_408 : Hid ((w25).heap[w.heap.size + 1 + 1]? = some (.cells #[.int .i64 f, .int .i64 s] 35)) := row_on FG_393.out (hb25)
  have FP3_409 : Hid ((w25).heap[b1_3]? = some (.cells #[.int .i64 R.pc, .slice (some ⟨gs3, 0, none⟩) N cs3] 27)) := row_on FP3_394.out (hb25)
  have FQ3_410 : Hid ((w25).heap[b2_3]? = some (.cells #[.slice (some ⟨ga3, 0, none⟩) m ca3] 38)) := row_on FQ3_395.out (hb25)
  have FE3_411 : Hid ((w25).heap[b3_3]? = some (.cells #[.int .i64 R.k, .int .i64 R.po, .int .i64 R.nu, .int .i64 R.tr] 40)) := row_on FE3_396.out (hb25)
  have FS3_412 : Hid (OwnN (w25) w2.heap.size gs3 N cs3 R.st) := FS3_397.out.on (hb25)
  have FA3_413 : Hid (OwnN (w25) w2.heap.size ga3 m ca3 R.ce) := FA3_398.out.on (hb25)
  have FP8_414 : Hid ((w25).heap[b1_8]? = some (.cells #[.int .i64 R.pc, .slice (some ⟨gs8, 0, none⟩) N cs8] 27)) := row_on FP8_399.out (hb25)
  have FQ8_415 : Hid ((w25).heap[b2_8]? = some (.cells #[.slice (some ⟨ga8, 0, none⟩) m ca8] 38)) := row_on FQ8_400.out (hb25)
  have FE8_416 : Hid ((w25).heap[b3_8]? = some (.cells #[.int .i64 R.k, .int .i64 R.po, .int .i64 R.nu, .int .i64 R.tr] 40)) := row_on FE8_401.out (hb25)
  have FS8_417 : Hid (OwnN (w25) W7.heap.size gs8 N cs8 (marks 1 N)) := FS8_402.out.on (hb25)
  have FA8_418 : Hid (OwnN (w25) W7.heap.size ga8 m ca8 (marks (1 + N) m)) := FA8_403.out.on (hb25)
  clear FW_390 FC_391 FR_392 FG_393 FP3_394 FQ3_395 FE3_396 FS3_397 FA3_398 FP8_399 FQ8_400 FE8_401 FS8_402 FA8_403 hb25
  go_wp2_with fail
  have Q300 : Hid (w25.cell? ⟨w.heap.size, 0, none⟩ = some (.int .i64 pc)) := (row2_cells FC_406.out).1
  have Q301 : Hid (w25.cell? ⟨w.heap.size, 1, none⟩ = some (.slice a n cap)) := (row2_cells FC_406.out).2.1
  have Q302 : Hid (w25.cell? ⟨w.heap.size + 1, 0, none⟩ = some (.slice qa m ca)) := (row1_cells FR_407.out).1
  have Q303 : Hid (w25.cell? ⟨w.heap.size + 1 + 1, 0, none⟩ = some (.int .i64 f)) := (row2_cells FG_408.out).1
  have Q304 : Hid (w25.cell? ⟨w.heap.size + 1 + 1, 1, none⟩ = some (.int .i64 s)) := (row2_cells FG_408.out).2.1
  have HS30 : Hid (Rd w25 a st) := HR.out.keep FW_405.out (Nat.le_refl _)
  have HI30 : Hid (I.RdR w25 qc rl) := HRC.out.keep FW_405.out (Nat.le_refl _)
  have HA30 : Hid (Rd w25 qa ce) := HRA.out.keep FW_405.out (Nat.le_refl _)
  go_cut [24, 25, 26] (fun o1 o2 o3 wc => ∃ (b1 b2 b3 gs cs ga ca : Nat), o1 = .pointer (some ⟨b1, 0, none⟩) ∧ o2 = .pointer (some ⟨b2, 0, none⟩) ∧ o3 = .pointer (some ⟨b3, 0, none⟩) ∧ Hid (OutB w25 wc b1 b2 b3 gs cs ga ca m N R))
  case first =>
    refine wp_region_held_drew (S := fun w' => Below w25.heap.size w25 w') (by kernel_rfl) (Below.refl _ _).drew (fun hHeld => ?_)
    refine wpAnyH_take (i := 0) (v := ?_) rfl (by kernel_rfl) (by kernel_rfl) (by kernel_rfl) (fun _ _ _ h => h) (Or.inl ⟨by rfl, ?_⟩) (by assumption) ?_
    rotate_left
    · intro w hSw; (try dsimp only at hSw); have q0_ := cell_on Q300.out hSw; have q1_ := cell_on Q301.out hSw; have q2_ := cell_on Q302.out hSw; have q3_ := cell_on Q303.out hSw; have q4_ := cell_on Q304.out hSw; go_simp <;> with_reducible rfl
    simp only [Act.put, List.setIfInBounds_toArray, List.set_cons_zero, List.set_cons_succ, List.getElem_toArray, List.getElem_cons_zero]
    refine wpAnyH_take (i := 2) (v := ?_) rfl (by kernel_rfl) (by kernel_rfl) (by kernel_rfl) (fun _ _ _ h => h) (Or.inl ⟨by rfl, ?_⟩) (by assumption) ?_
    rotate_left
    · intro w hSw; (try dsimp only at hSw); have q0_ := cell_on Q300.out hSw; have q1_ := cell_on Q301.out hSw; have q2_ := cell_on Q302.out hSw; have q3_ := cell_on Q303.out hSw; have q4_ := cell_on Q304.out hSw; go_simp <;> with_reducible rfl
    simp only [Act.put, List.setIfInBounds_toArray, List.set_cons_zero, List.set_cons_succ, List.getElem_toArray, List.getElem_cons_zero, List.getElem_cons_succ]
    refine wpAnyH_take (i := 4) (v := ?_) rfl (by kernel_rfl) (by kernel_rfl) (by kernel_rfl) (fun _ _ _ h => h) (Or.inl ⟨by rfl, ?_⟩) (by assumption) ?_
    rotate_left
    · intro w hSw; (try dsimp only at hSw); have q0_ := cell_on Q300.out hSw; have q1_ := cell_on Q301.out hSw; have q2_ := cell_on Q302.out hSw; have q3_ := cell_on Q303.out hSw; have q4_ := cell_on Q304.out hSw; go_simp <;> with_reducible rfl
    simp only [Act.put, List.setIfInBounds_toArray, List.set_cons_zero, List.set_cons_succ, List.getElem_toArray, List.getElem_cons_zero, List.getElem_cons_succ]
    refine wpAnyH_take (i := 6) (v := ?_) rfl (by kernel_rfl) (by kernel_rfl) (by kernel_rfl) (fun _ _ _ h => h) (Or.inl ⟨by rfl, ?_⟩) (by assumption) ?_
    rotate_left
    · intro w hSw; (try dsimp only at hSw); have q0_ := cell_on Q300.out hSw; have q1_ := cell_on Q301.out hSw; have q2_ := cell_on Q302.out hSw; have q3_ := cell_on Q303.out hSw; have q4_ := cell_on Q304.out hSw; go_simp <;> with_reducible rfl
    simp only [Act.put, List.setIfInBounds_toArray, List.set_cons_zero, List.set_cons_succ, List.getElem_toArray, List.getElem_cons_zero, List.getElem_cons_succ]
    refine wpAnyH_take (i := 8) (v := ?_) rfl (by kernel_rfl) (by kernel_rfl) (by kernel_rfl) (fun _ _ _ h => h) (Or.inl ⟨by rfl, ?_⟩) (by assumption) ?_
    rotate_left
    · intro w hSw; (try dsimp only at hSw); have q0_ := cell_on Q300.out hSw; have q1_ := cell_on Q301.out hSw; have q2_ := cell_on Q302.out hSw; have q3_ := cell_on Q303.out hSw; have q4_ := cell_on Q304.out hSw; go_simp <;> with_reducible rfl
    simp only [Act.put, List.setIfInBounds_toArray, List.set_cons_zero, List.set_cons_succ, List.getElem_toArray, List.getElem_cons_zero, List.getElem_cons_succ]
    refine wpAnyH_named (fun a0 ha0 => ?_)
    have HA0 : Hid (a0 = _) := ha0
    clear ha0
    refine main_go (L := (fun x y z => #[true, false, true, false, true, false, true, false, true, false, false, false, false, false, x, y, z, false, false, false])) (St := (fun x y z a w => ∃ (vx vy vz : Value), a = (((a0.put (some 24) vx).put (some 25) vy).put (some 26) vz) ∧ VB w25 x vx w zCpu ∧ VB w25 y vy w zAr ∧ VB w25 z vz w zEf)) (K := 12) ?h (by kernel_rfl) (by decide) (by assumption) ⟨a0.tmps.getD 24 undef, a0.tmps.getD 25 undef, a0.tmps.getD 26 undef, (by simp only [put_self]), VB.no _ _ _ _, VB.no _ _ _ _, VB.no _ _ _ _⟩
    case h =>
      refine stage3 (i1 := 14) (i2 := 15) (i3 := 16) (c := 1) (fun x y z => #[true, false, true, false, true, false, true, false, true, false, false, false, false, false, x, y, z, false, false, false]) (fun x y z => #[true, true, true, false, true, false, true, false, true, false, false, false, false, false, x, y, z, false, false, false]) (fun x y z a w => ∃ (vx vy vz : Value), a = (((a0.put (some 24) vx).put (some 25) vy).put (some 26) vz) ∧ VB w25 x vx w zCpu ∧ VB w25 y vy w zAr ∧ VB w25 z vz w zEf) (fun x y z a w => ∃ (vx vy vz : Value) (gx : Nat), a = ((((a0.put (some 154) (.agg #[.int .i64 pc, .slice (some ⟨gx, 0, none⟩) n n])).put (some 24) vx).put (some 25) vy).put (some 26) vz) ∧ Hid (RowAt w gx st) ∧ VB w25 x vx w zCpu ∧ VB w25 y vy w zAr ∧ VB w25 z vz w zEf) 11 ?_ ?_ ?_ ?_ ?_ ?_ ?_ ?_ ?_ ?_ ?_
      · intro x y z i hi
        cases x <;> cases y <;> cases z
        · have e_ := mem_kernel (rs := [1, 14, 15, 16]) (by kernel_rfl) hi; (first | (simp at e_ ⊢; done) | (simp at e_ ⊢; omega))
        · have e_ := mem_kernel (rs := [1, 14, 15]) (by kernel_rfl) hi; (first | (simp at e_ ⊢; done) | (simp at e_ ⊢; omega))
        · have e_ := mem_kernel (rs := [1, 14, 16]) (by kernel_rfl) hi; (first | (simp at e_ ⊢; done) | (simp at e_ ⊢; omega))
        · have e_ := mem_kernel (rs := [1, 14]) (by kernel_rfl) hi; (first | (simp at e_ ⊢; done) | (simp at e_ ⊢; omega))
        · have e_ := mem_kernel (rs := [1, 15, 16]) (by kernel_rfl) hi; (first | (simp at e_ ⊢; done) | (simp at e_ ⊢; omega))
        · have e_ := mem_kernel (rs := [1, 15]) (by kernel_rfl) hi; (first | (simp at e_ ⊢; done) | (simp at e_ ⊢; omega))
        · have e_ := mem_kernel (rs := [1, 16]) (by kernel_rfl) hi; (first | (simp at e_ ⊢; done) | (simp at e_ ⊢; omega))
        · have e_ := mem_kernel (rs := [1]) (by kernel_rfl) hi; (first | (simp at e_ ⊢; done) | (simp at e_ ⊢; omega))
      · intro x y z
        cases x <;> cases y <;> cases z
        · exact ne_kernel (rs := [1, 14, 15, 16]) (by kernel_rfl) (by simp)
        · exact ne_kernel (rs := [1, 14, 15]) (by kernel_rfl) (by simp)
        · exact ne_kernel (rs := [1, 14, 16]) (by kernel_rfl) (by simp)
        · exact ne_kernel (rs := [1, 14]) (by kernel_rfl) (by simp)
        · exact ne_kernel (rs := [1, 15, 16]) (by kernel_rfl) (by simp)
        · exact ne_kernel (rs := [1, 15]) (by kernel_rfl) (by simp)
        · exact ne_kernel (rs := [1, 16]) (by kernel_rfl) (by simp)
        · exact ne_kernel (rs := [1]) (by kernel_rfl) (by simp)
      · intro x y; cases x <;> cases y <;> kernel_rfl
      · intro x y; cases x <;> cases y <;> kernel_rfl
      · intro x y; cases x <;> cases y <;> kernel_rfl
      · intro x y z; cases x <;> cases y <;> cases z <;> kernel_rfl
      · rintro y z a w hSw ⟨vx, vy, vz, rfl, bx, by_, bz⟩
        refine wpOp_step (i := 14) rfl (fun K hK => ?_)
        have HK : Shut _ := hK
        clear hK
        rw [HA0.out]
        simp only [Act.put, List.setIfInBounds_toArray, List.set_cons_zero, List.set_cons_succ]
        go_simp
        exact HK.out _ _ ⟨bel_on (Nat.le_refl _) hSw (al1_b w zCpu), _, vy, vz, (by rw [HA0.out]; simp only [Act.put, List.setIfInBounds_toArray, List.set_cons_zero, List.set_cons_succ]), VB.new hSw, by_.on (al1_b w zCpu), bz.on (al1_b w zCpu)⟩
      · rintro x z a w hSw ⟨vx, vy, vz, rfl, bx, by_, bz⟩
        refine wpOp_step (i := 15) rfl (fun K hK => ?_)
        have HK : Shut _ := hK
        clear hK
        rw [HA0.out]
        simp only [Act.put, List.setIfInBounds_toArray, List.set_cons_zero, List.set_cons_succ]
        go_simp
        exact HK.out _ _ ⟨bel_on (Nat.le_refl _) hSw (al1_b w zAr), vx, _, vz, (by rw [HA0.out]; simp only [Act.put, List.setIfInBounds_toArray, List.set_cons_zero, List.set_cons_succ]), bx.on (al1_b w zAr), VB.new hSw, bz.on (al1_b w zAr)⟩
      · rintro x y a w hSw ⟨vx, vy, vz, rfl, bx, by_, bz⟩
        refine wpOp_step (i := 16) rfl (fun K hK => ?_)
        have HK : Shut _ := hK
        clear hK
        rw [HA0.out]
        simp only [Act.put, List.setIfInBounds_toArray, List.set_cons_zero, List.set_cons_succ]
        go_simp
        exact HK.out _ _ ⟨bel_on (Nat.le_refl _) hSw (al1_b w zEf), vx, vy, _, (by rw [HA0.out]; simp only [Act.put, List.setIfInBounds_toArray, List.set_cons_zero, List.set_cons_succ]), bx.on (al1_b w zEf), by_.on (al1_b w zEf), VB.new hSw⟩
      · rintro x y z a w hSw ⟨vx, vy, vz, rfl, bx, by_, bz⟩
        refine wpOp_step (i := 1) rfl (fun K hK => ?_)
        have HK : Shut _ := hK
        clear hK
        rw [HA0.out]
        simp only [Act.put, List.setIfInBounds_toArray, List.set_cons_zero, List.set_cons_succ]
        go_simp
        go_at_call 13
        refine (toC a pc st n cap HL.out hn _ (HS30.out.on hSw)).mono ?_
        rintro e w9 ⟨gx, rfl, _, hrow9, hb9⟩
        go_wp2_with fail
        exact HK.out _ _ ⟨bel_on (Nat.le_refl _) hSw (hb9), vx, vy, vz, gx, (by rw [HA0.out]; simp only [Act.put, List.setIfInBounds_toArray, List.set_cons_zero, List.set_cons_succ]), hrow9, bx.on (hb9), by_.on (hb9), bz.on (hb9)⟩
      refine stage3 (i1 := 14) (i2 := 15) (i3 := 16) (c := 3) (fun x y z => #[true, true, true, false, true, false, true, false, true, false, false, false, false, false, x, y, z, false, false, false]) (fun x y z => #[true, true, true, true, true, false, true, false, true, false, false, false, false, false, x, y, z, false, false, false]) (fun x y z a w => ∃ (vx vy vz : Value) (gx : Nat), a = ((((a0.put (some 154) (.agg #[.int .i64 pc, .slice (some ⟨gx, 0, none⟩) n n])).put (some 24) vx).put (some 25) vy).put (some 26) vz) ∧ Hid (RowAt w gx st) ∧ VB w25 x vx w zCpu ∧ VB w25 y vy w zAr ∧ VB w25 z vz w zEf) (fun x y z a w => ∃ (vx vy vz : Value) (gx : Nat) (kq : Nat), a = (((((a0.put (some 154) (.agg #[.int .i64 pc, .slice (some ⟨gx, 0, none⟩) n n])).put (some 156) (.slice (some ⟨kq, 0, none⟩) nc nc)).put (some 24) vx).put (some 25) vy).put (some 26) vz) ∧ Hid (RowAt w gx st) ∧ Hid (I.RowR w kq rl) ∧ VB w25 x vx w zCpu ∧ VB w25 y vy w zAr ∧ VB w25 z vz w zEf) 10 ?_ ?_ ?_ ?_ ?_ ?_ ?_ ?_ ?_ ?_ ?_
      · intro x y z i hi
        cases x <;> cases y <;> cases z
        · have e_ := mem_kernel (rs := [3, 14, 15, 16]) (by kernel_rfl) hi; (first | (simp at e_ ⊢; done) | (simp at e_ ⊢; omega))
        · have e_ := mem_kernel (rs := [3, 14, 15]) (by kernel_rfl) hi; (first | (simp at e_ ⊢; done) | (simp at e_ ⊢; omega))
        · have e_ := mem_kernel (rs := [3, 14, 16]) (by kernel_rfl) hi; (first | (simp at e_ ⊢; done) | (simp at e_ ⊢; omega))
        · have e_ := mem_kernel (rs := [3, 14]) (by kernel_rfl) hi; (first | (simp at e_ ⊢; done) | (simp at e_ ⊢; omega))
        · have e_ := mem_kernel (rs := [3, 15, 16]) (by kernel_rfl) hi; (first | (simp at e_ ⊢; done) | (simp at e_ ⊢; omega))
        · have e_ := mem_kernel (rs := [3, 15]) (by kernel_rfl) hi; (first | (simp at e_ ⊢; done) | (simp at e_ ⊢; omega))
        · have e_ := mem_kernel (rs := [3, 16]) (by kernel_rfl) hi; (first | (simp at e_ ⊢; done) | (simp at e_ ⊢; omega))
        · have e_ := mem_kernel (rs := [3]) (by kernel_rfl) hi; (first | (simp at e_ ⊢; done) | (simp at e_ ⊢; omega))
      · intro x y z
        cases x <;> cases y <;> cases z
        · exact ne_kernel (rs := [3, 14, 15, 16]) (by kernel_rfl) (by simp)
        · exact ne_kernel (rs := [3, 14, 15]) (by kernel_rfl) (by simp)
        · exact ne_kernel (rs := [3, 14, 16]) (by kernel_rfl) (by simp)
        · exact ne_kernel (rs := [3, 14]) (by kernel_rfl) (by simp)
        · exact ne_kernel (rs := [3, 15, 16]) (by kernel_rfl) (by simp)
        · exact ne_kernel (rs := [3, 15]) (by kernel_rfl) (by simp)
        · exact ne_kernel (rs := [3, 16]) (by kernel_rfl) (by simp)
        · exact ne_kernel (rs := [3]) (by kernel_rfl) (by simp)
      · intro x y; cases x <;> cases y <;> kernel_rfl
      · intro x y; cases x <;> cases y <;> kernel_rfl
      · intro x y; cases x <;> cases y <;> kernel_rfl
      · intro x y z; cases x <;> cases y <;> cases z <;> kernel_rfl
      · rintro y z a w hSw ⟨vx, vy, vz, gx, rfl, Hx, bx, by_, bz⟩
        refine wpOp_step (i := 14) rfl (fun K hK => ?_)
        have HK : Shut _ := hK
        clear hK
        rw [HA0.out]
        simp only [Act.put, List.setIfInBounds_toArray, List.set_cons_zero, List.set_cons_succ]
        go_simp
        exact HK.out _ _ ⟨bel_on (Nat.le_refl _) hSw (al1_b w zCpu), _, vy, vz, gx, (by rw [HA0.out]; simp only [Act.put, List.setIfInBounds_toArray, List.set_cons_zero, List.set_cons_succ]), RowAt.on Hx.out (al1_b w zCpu), VB.new hSw, by_.on (al1_b w zCpu), bz.on (al1_b w zCpu)⟩
      · rintro x z a w hSw ⟨vx, vy, vz, gx, rfl, Hx, bx, by_, bz⟩
        refine wpOp_step (i := 15) rfl (fun K hK => ?_)
        have HK : Shut _ := hK
        clear hK
        rw [HA0.out]
        simp only [Act.put, List.setIfInBounds_toArray, List.set_cons_zero, List.set_cons_succ]
        go_simp
        exact HK.out _ _ ⟨bel_on (Nat.le_refl _) hSw (al1_b w zAr), vx, _, vz, gx, (by rw [HA0.out]; simp only [Act.put, List.setIfInBounds_toArray, List.set_cons_zero, List.set_cons_succ]), RowAt.on Hx.out (al1_b w zAr), bx.on (al1_b w zAr), VB.new hSw, bz.on (al1_b w zAr)⟩
      · rintro x y a w hSw ⟨vx, vy, vz, gx, rfl, Hx, bx, by_, bz⟩
        refine wpOp_step (i := 16) rfl (fun K hK => ?_)
        have HK : Shut _ := hK
        clear hK
        rw [HA0.out]
        simp only [Act.put, List.setIfInBounds_toArray, List.set_cons_zero, List.set_cons_succ]
        go_simp
        exact HK.out _ _ ⟨bel_on (Nat.le_refl _) hSw (al1_b w zEf), vx, vy, _, gx, (by rw [HA0.out]; simp only [Act.put, List.setIfInBounds_toArray, List.set_cons_zero, List.set_cons_succ]), RowAt.on Hx.out (al1_b w zEf), bx.on (al1_b w zEf), by_.on (al1_b w zEf), VB.new hSw⟩
      · rintro x y z a w hSw ⟨vx, vy, vz, gx, rfl, Hx, bx, by_, bz⟩
        refine wpOp_step (i := 3) rfl (fun K hK => ?_)
        have HK : Shut _ := hK
        clear hK
        rw [HA0.out]
        simp only [Act.put, List.setIfInBounds_toArray, List.set_cons_zero, List.set_cons_succ]
        go_simp
        go_at_call 19
        refine (I.toRs qc rl nc cc HLC.out hnc _ (HI30.out.on hSw)).mono ?_
        rintro e w9 ⟨rfl, hrow9, hb9⟩
        go_wp2_with fail
        exact HK.out _ _ ⟨bel_on (Nat.le_refl _) hSw (hb9), vx, vy, vz, gx, w.heap.size, (by rw [HA0.out]; simp only [Act.put, List.setIfInBounds_toArray, List.set_cons_zero, List.set_cons_succ]), RowAt.on Hx.out (hb9), hrow9, bx.on (hb9), by_.on (hb9), bz.on (hb9)⟩
      refine stage3 (i1 := 14) (i2 := 15) (i3 := 16) (c := 5) (fun x y z => #[true, true, true, true, true, false, true, false, true, false, false, false, false, false, x, y, z, false, false, false]) (fun x y z => #[true, true, true, true, true, true, true, false, true, false, false, false, false, false, x, y, z, false, false, false]) (fun x y z a w => ∃ (vx vy vz : Value) (gx : Nat) (kq : Nat), a = (((((a0.put (some 154) (.agg #[.int .i64 pc, .slice (some ⟨gx, 0, none⟩) n n])).put (some 156) (.slice (some ⟨kq, 0, none⟩) nc nc)).put (some 24) vx).put (some 25) vy).put (some 26) vz) ∧ Hid (RowAt w gx st) ∧ Hid (I.RowR w kq rl) ∧ VB w25 x vx w zCpu ∧ VB w25 y vy w zAr ∧ VB w25 z vz w zEf) (fun x y z a w => ∃ (vx vy vz : Value) (gx : Nat) (kq : Nat) (gy : Nat), a = ((((((a0.put (some 154) (.agg #[.int .i64 pc, .slice (some ⟨gx, 0, none⟩) n n])).put (some 156) (.slice (some ⟨kq, 0, none⟩) nc nc)).put (some 158) (.agg #[.slice (some ⟨gy, 0, none⟩) m m])).put (some 24) vx).put (some 25) vy).put (some 26) vz) ∧ Hid (RowAt w gx st) ∧ Hid (I.RowR w kq rl) ∧ Hid (RowAt w gy ce) ∧ VB w25 x vx w zCpu ∧ VB w25 y vy w zAr ∧ VB w25 z vz w zEf) 9 ?_ ?_ ?_ ?_ ?_ ?_ ?_ ?_ ?_ ?_ ?_
      · intro x y z i hi
        cases x <;> cases y <;> cases z
        · have e_ := mem_kernel (rs := [5, 14, 15, 16]) (by kernel_rfl) hi; (first | (simp at e_ ⊢; done) | (simp at e_ ⊢; omega))
        · have e_ := mem_kernel (rs := [5, 14, 15]) (by kernel_rfl) hi; (first | (simp at e_ ⊢; done) | (simp at e_ ⊢; omega))
        · have e_ := mem_kernel (rs := [5, 14, 16]) (by kernel_rfl) hi; (first | (simp at e_ ⊢; done) | (simp at e_ ⊢; omega))
        · have e_ := mem_kernel (rs := [5, 14]) (by kernel_rfl) hi; (first | (simp at e_ ⊢; done) | (simp at e_ ⊢; omega))
        · have e_ := mem_kernel (rs := [5, 15, 16]) (by kernel_rfl) hi; (first | (simp at e_ ⊢; done) | (simp at e_ ⊢; omega))
        · have e_ := mem_kernel (rs := [5, 15]) (by kernel_rfl) hi; (first | (simp at e_ ⊢; done) | (simp at e_ ⊢; omega))
        · have e_ := mem_kernel (rs := [5, 16]) (by kernel_rfl) hi; (first | (simp at e_ ⊢; done) | (simp at e_ ⊢; omega))
        · have e_ := mem_kernel (rs := [5]) (by kernel_rfl) hi; (first | (simp at e_ ⊢; done) | (simp at e_ ⊢; omega))
      · intro x y z
        cases x <;> cases y <;> cases z
        · exact ne_kernel (rs := [5, 14, 15, 16]) (by kernel_rfl) (by simp)
        · exact ne_kernel (rs := [5, 14, 15]) (by kernel_rfl) (by simp)
        · exact ne_kernel (rs := [5, 14, 16]) (by kernel_rfl) (by simp)
        · exact ne_kernel (rs := [5, 14]) (by kernel_rfl) (by simp)
        · exact ne_kernel (rs := [5, 15, 16]) (by kernel_rfl) (by simp)
        · exact ne_kernel (rs := [5, 15]) (by kernel_rfl) (by simp)
        · exact ne_kernel (rs := [5, 16]) (by kernel_rfl) (by simp)
        · exact ne_kernel (rs := [5]) (by kernel_rfl) (by simp)
      · intro x y; cases x <;> cases y <;> kernel_rfl
      · intro x y; cases x <;> cases y <;> kernel_rfl
      · intro x y; cases x <;> cases y <;> kernel_rfl
      · intro x y z; cases x <;> cases y <;> cases z <;> kernel_rfl
      · rintro y z a w hSw ⟨vx, vy, vz, gx, kq, rfl, Hx, Hi, bx, by_, bz⟩
        refine wpOp_step (i := 14) rfl (fun K hK => ?_)
        have HK : Shut _ := hK
        clear hK
        rw [HA0.out]
        simp only [Act.put, List.setIfInBounds_toArray, List.set_cons_zero, List.set_cons_succ]
        go_simp
        exact HK.out _ _ ⟨bel_on (Nat.le_refl _) hSw (al1_b w zCpu), _, vy, vz, gx, kq, (by rw [HA0.out]; simp only [Act.put, List.setIfInBounds_toArray, List.set_cons_zero, List.set_cons_succ]), RowAt.on Hx.out (al1_b w zCpu), I.RowR.on Hi.out (al1_b w zCpu), VB.new hSw, by_.on (al1_b w zCpu), bz.on (al1_b w zCpu)⟩
      · rintro x z a w hSw ⟨vx, vy, vz, gx, kq, rfl, Hx, Hi, bx, by_, bz⟩
        refine wpOp_step (i := 15) rfl (fun K hK => ?_)
        have HK : Shut _ := hK
        clear hK
        rw [HA0.out]
        simp only [Act.put, List.setIfInBounds_toArray, List.set_cons_zero, List.set_cons_succ]
        go_simp
        exact HK.out _ _ ⟨bel_on (Nat.le_refl _) hSw (al1_b w zAr), vx, _, vz, gx, kq, (by rw [HA0.out]; simp only [Act.put, List.setIfInBounds_toArray, List.set_cons_zero, List.set_cons_succ]), RowAt.on Hx.out (al1_b w zAr), I.RowR.on Hi.out (al1_b w zAr), bx.on (al1_b w zAr), VB.new hSw, bz.on (al1_b w zAr)⟩
      · rintro x y a w hSw ⟨vx, vy, vz, gx, kq, rfl, Hx, Hi, bx, by_, bz⟩
        refine wpOp_step (i := 16) rfl (fun K hK => ?_)
        have HK : Shut _ := hK
        clear hK
        rw [HA0.out]
        simp only [Act.put, List.setIfInBounds_toArray, List.set_cons_zero, List.set_cons_succ]
        go_simp
        exact HK.out _ _ ⟨bel_on (Nat.le_refl _) hSw (al1_b w zEf), vx, vy, _, gx, kq, (by rw [HA0.out]; simp only [Act.put, List.setIfInBounds_toArray, List.set_cons_zero, List.set_cons_succ]), RowAt.on Hx.out (al1_b w zEf), I.RowR.on Hi.out (al1_b w zEf), bx.on (al1_b w zEf), by_.on (al1_b w zEf), VB.new hSw⟩
      · rintro x y z a w hSw ⟨vx, vy, vz, gx, kq, rfl, Hx, Hi, bx, by_, bz⟩
        refine wpOp_step (i := 5) rfl (fun K hK => ?_)
        have HK : Shut _ := hK
        clear hK
        rw [HA0.out]
        simp only [Act.put, List.setIfInBounds_toArray, List.set_cons_zero, List.set_cons_succ]
        go_simp
        go_at_call 20
        refine (toA qa ce m ca HLA.out hm _ (HA30.out.on hSw)).mono ?_
        rintro e w9 ⟨gy, rfl, _, hrow9, hb9⟩
        go_wp2_with fail
        exact HK.out _ _ ⟨bel_on (Nat.le_refl _) hSw (hb9), vx, vy, vz, gx, kq, gy, (by rw [HA0.out]; simp only [Act.put, List.setIfInBounds_toArray, List.set_cons_zero, List.set_cons_succ]), RowAt.on Hx.out (hb9), I.RowR.on Hi.out (hb9), hrow9, bx.on (hb9), by_.on (hb9), bz.on (hb9)⟩
      refine stage3 (i1 := 14) (i2 := 15) (i3 := 16) (c := 7) (fun x y z => #[true, true, true, true, true, true, true, false, true, false, false, false, false, false, x, y, z, false, false, false]) (fun x y z => #[true, true, true, true, true, true, true, true, true, false, false, false, false, false, x, y, z, false, false, false]) (fun x y z a w => ∃ (vx vy vz : Value) (gx : Nat) (kq : Nat) (gy : Nat), a = ((((((a0.put (some 154) (.agg #[.int .i64 pc, .slice (some ⟨gx, 0, none⟩) n n])).put (some 156) (.slice (some ⟨kq, 0, none⟩) nc nc)).put (some 158) (.agg #[.slice (some ⟨gy, 0, none⟩) m m])).put (some 24) vx).put (some 25) vy).put (some 26) vz) ∧ Hid (RowAt w gx st) ∧ Hid (I.RowR w kq rl) ∧ Hid (RowAt w gy ce) ∧ VB w25 x vx w zCpu ∧ VB w25 y vy w zAr ∧ VB w25 z vz w zEf) (fun x y z a w => ∃ (vx vy vz : Value) (gx : Nat) (kq : Nat) (gy : Nat), a = (((((((a0.put (some 154) (.agg #[.int .i64 pc, .slice (some ⟨gx, 0, none⟩) n n])).put (some 156) (.slice (some ⟨kq, 0, none⟩) nc nc)).put (some 158) (.agg #[.slice (some ⟨gy, 0, none⟩) m m])).put (some 160) (.agg #[.int .i64 f, .int .i64 s])).put (some 24) vx).put (some 25) vy).put (some 26) vz) ∧ Hid (RowAt w gx st) ∧ Hid (I.RowR w kq rl) ∧ Hid (RowAt w gy ce) ∧ VB w25 x vx w zCpu ∧ VB w25 y vy w zAr ∧ VB w25 z vz w zEf) 8 ?_ ?_ ?_ ?_ ?_ ?_ ?_ ?_ ?_ ?_ ?_
      · intro x y z i hi
        cases x <;> cases y <;> cases z
        · have e_ := mem_kernel (rs := [7, 14, 15, 16]) (by kernel_rfl) hi; (first | (simp at e_ ⊢; done) | (simp at e_ ⊢; omega))
        · have e_ := mem_kernel (rs := [7, 14, 15]) (by kernel_rfl) hi; (first | (simp at e_ ⊢; done) | (simp at e_ ⊢; omega))
        · have e_ := mem_kernel (rs := [7, 14, 16]) (by kernel_rfl) hi; (first | (simp at e_ ⊢; done) | (simp at e_ ⊢; omega))
        · have e_ := mem_kernel (rs := [7, 14]) (by kernel_rfl) hi; (first | (simp at e_ ⊢; done) | (simp at e_ ⊢; omega))
        · have e_ := mem_kernel (rs := [7, 15, 16]) (by kernel_rfl) hi; (first | (simp at e_ ⊢; done) | (simp at e_ ⊢; omega))
        · have e_ := mem_kernel (rs := [7, 15]) (by kernel_rfl) hi; (first | (simp at e_ ⊢; done) | (simp at e_ ⊢; omega))
        · have e_ := mem_kernel (rs := [7, 16]) (by kernel_rfl) hi; (first | (simp at e_ ⊢; done) | (simp at e_ ⊢; omega))
        · have e_ := mem_kernel (rs := [7]) (by kernel_rfl) hi; (first | (simp at e_ ⊢; done) | (simp at e_ ⊢; omega))
      · intro x y z
        cases x <;> cases y <;> cases z
        · exact ne_kernel (rs := [7, 14, 15, 16]) (by kernel_rfl) (by simp)
        · exact ne_kernel (rs := [7, 14, 15]) (by kernel_rfl) (by simp)
        · exact ne_kernel (rs := [7, 14, 16]) (by kernel_rfl) (by simp)
        · exact ne_kernel (rs := [7, 14]) (by kernel_rfl) (by simp)
        · exact ne_kernel (rs := [7, 15, 16]) (by kernel_rfl) (by simp)
        · exact ne_kernel (rs := [7, 15]) (by kernel_rfl) (by simp)
        · exact ne_kernel (rs := [7, 16]) (by kernel_rfl) (by simp)
        · exact ne_kernel (rs := [7]) (by kernel_rfl) (by simp)
      · intro x y; cases x <;> cases y <;> kernel_rfl
      · intro x y; cases x <;> cases y <;> kernel_rfl
      · intro x y; cases x <;> cases y <;> kernel_rfl
      · intro x y z; cases x <;> cases y <;> cases z <;> kernel_rfl
      · rintro y z a w hSw ⟨vx, vy, vz, gx, kq, gy, rfl, Hx, Hi, Hy, bx, by_, bz⟩
        refine wpOp_step (i := 14) rfl (fun K hK => ?_)
        have HK : Shut _ := hK
        clear hK
        rw [HA0.out]
        simp only [Act.put, List.setIfInBounds_toArray, List.set_cons_zero, List.set_cons_succ]
        go_simp
        exact HK.out _ _ ⟨bel_on (Nat.le_refl _) hSw (al1_b w zCpu), _, vy, vz, gx, kq, gy, (by rw [HA0.out]; simp only [Act.put, List.setIfInBounds_toArray, List.set_cons_zero, List.set_cons_succ]), RowAt.on Hx.out (al1_b w zCpu), I.RowR.on Hi.out (al1_b w zCpu), RowAt.on Hy.out (al1_b w zCpu), VB.new hSw, by_.on (al1_b w zCpu), bz.on (al1_b w zCpu)⟩
      · rintro x z a w hSw ⟨vx, vy, vz, gx, kq, gy, rfl, Hx, Hi, Hy, bx, by_, bz⟩
        refine wpOp_step (i := 15) rfl (fun K hK => ?_)
        have HK : Shut _ := hK
        clear hK
        rw [HA0.out]
        simp only [Act.put, List.setIfInBounds_toArray, List.set_cons_zero, List.set_cons_succ]
        go_simp
        exact HK.out _ _ ⟨bel_on (Nat.le_refl _) hSw (al1_b w zAr), vx, _, vz, gx, kq, gy, (by rw [HA0.out]; simp only [Act.put, List.setIfInBounds_toArray, List.set_cons_zero, List.set_cons_succ]), RowAt.on Hx.out (al1_b w zAr), I.RowR.on Hi.out (al1_b w zAr), RowAt.on Hy.out (al1_b w zAr), bx.on (al1_b w zAr), VB.new hSw, bz.on (al1_b w zAr)⟩
      · rintro x y a w hSw ⟨vx, vy, vz, gx, kq, gy, rfl, Hx, Hi, Hy, bx, by_, bz⟩
        refine wpOp_step (i := 16) rfl (fun K hK => ?_)
        have HK : Shut _ := hK
        clear hK
        rw [HA0.out]
        simp only [Act.put, List.setIfInBounds_toArray, List.set_cons_zero, List.set_cons_succ]
        go_simp
        exact HK.out _ _ ⟨bel_on (Nat.le_refl _) hSw (al1_b w zEf), vx, vy, _, gx, kq, gy, (by rw [HA0.out]; simp only [Act.put, List.setIfInBounds_toArray, List.set_cons_zero, List.set_cons_succ]), RowAt.on Hx.out (al1_b w zEf), I.RowR.on Hi.out (al1_b w zEf), RowAt.on Hy.out (al1_b w zEf), bx.on (al1_b w zEf), by_.on (al1_b w zEf), VB.new hSw⟩
      · rintro x y z a w hSw ⟨vx, vy, vz, gx, kq, gy, rfl, Hx, Hi, Hy, bx, by_, bz⟩
        refine wpOp_step (i := 7) rfl (fun K hK => ?_)
        have HK : Shut _ := hK
        clear hK
        rw [HA0.out]
        simp only [Act.put, List.setIfInBounds_toArray, List.set_cons_zero, List.set_cons_succ]
        go_simp
        go_at_call 21
        refine (toR f s _).mono ?_
        rintro e w9 ⟨rfl, hb9⟩
        go_wp2_with fail
        exact HK.out _ _ ⟨bel_on (Nat.le_refl _) hSw (hb9), vx, vy, vz, gx, kq, gy, (by rw [HA0.out]; simp only [Act.put, List.setIfInBounds_toArray, List.set_cons_zero, List.set_cons_succ]), RowAt.on Hx.out (hb9), I.RowR.on Hi.out (hb9), RowAt.on Hy.out (hb9), bx.on (hb9), by_.on (hb9), bz.on (hb9)⟩
      refine stage3 (i1 := 14) (i2 := 15) (i3 := 16) (c := 9) (fun x y z => #[true, true, true, true, true, true, true, true, true, false, false, false, false, false, x, y, z, false, false, false]) (fun x y z => #[true, true, true, true, true, true, true, true, true, true, false, false, false, false, x, y, z, false, false, false]) (fun x y z a w => ∃ (vx vy vz : Value) (gx : Nat) (kq : Nat) (gy : Nat), a = (((((((a0.put (some 154) (.agg #[.int .i64 pc, .slice (some ⟨gx, 0, none⟩) n n])).put (some 156) (.slice (some ⟨kq, 0, none⟩) nc nc)).put (some 158) (.agg #[.slice (some ⟨gy, 0, none⟩) m m])).put (some 160) (.agg #[.int .i64 f, .int .i64 s])).put (some 24) vx).put (some 25) vy).put (some 26) vz) ∧ Hid (RowAt w gx st) ∧ Hid (I.RowR w kq rl) ∧ Hid (RowAt w gy ce) ∧ VB w25 x vx w zCpu ∧ VB w25 y vy w zAr ∧ VB w25 z vz w zEf) (fun x y z a w => ∃ (vx vy vz : Value) (gx : Nat) (kq : Nat) (gy : Nat) (gs : Nat) (cs : Nat) (ga : Nat) (ca : Nat), a = ((((((((a0.put (some 154) (.agg #[.int .i64 pc, .slice (some ⟨gx, 0, none⟩) n n])).put (some 156) (.slice (some ⟨kq, 0, none⟩) nc nc)).put (some 158) (.agg #[.slice (some ⟨gy, 0, none⟩) m m])).put (some 160) (.agg #[.int .i64 f, .int .i64 s])).put (some 162) (.tuple #[.agg #[.int .i64 (R : Res).pc, .slice (some ⟨gs, 0, none⟩) N cs], .agg #[.slice (some ⟨ga, 0, none⟩) m ca], .agg #[.int .i64 (R : Res).k, .int .i64 (R : Res).po, .int .i64 (R : Res).nu, .int .i64 (R : Res).tr]])).put (some 24) vx).put (some 25) vy).put (some 26) vz) ∧ Hid (RowAt w gx st) ∧ Hid (I.RowR w kq rl) ∧ Hid (RowAt w gy ce) ∧ Hid (OwnN w w25.heap.size gs N cs (R : Res).st) ∧ Hid (OwnN w w25.heap.size ga m ca (R : Res).ce) ∧ Hid (gs ≠ ga) ∧ VB w25 x vx w zCpu ∧ VB w25 y vy w zAr ∧ VB w25 z vz w zEf) 7 ?_ ?_ ?_ ?_ ?_ ?_ ?_ ?_ ?_ ?_ ?_
      · intro x y z i hi
        cases x <;> cases y <;> cases z
        · have e_ := mem_kernel (rs := [9, 14, 15, 16]) (by kernel_rfl) hi; (first | (simp at e_ ⊢; done) | (simp at e_ ⊢; omega))
        · have e_ := mem_kernel (rs := [9, 14, 15]) (by kernel_rfl) hi; (first | (simp at e_ ⊢; done) | (simp at e_ ⊢; omega))
        · have e_ := mem_kernel (rs := [9, 14, 16]) (by kernel_rfl) hi; (first | (simp at e_ ⊢; done) | (simp at e_ ⊢; omega))
        · have e_ := mem_kernel (rs := [9, 14]) (by kernel_rfl) hi; (first | (simp at e_ ⊢; done) | (simp at e_ ⊢; omega))
        · have e_ := mem_kernel (rs := [9, 15, 16]) (by kernel_rfl) hi; (first | (simp at e_ ⊢; done) | (simp at e_ ⊢; omega))
        · have e_ := mem_kernel (rs := [9, 15]) (by kernel_rfl) hi; (first | (simp at e_ ⊢; done) | (simp at e_ ⊢; omega))
        · have e_ := mem_kernel (rs := [9, 16]) (by kernel_rfl) hi; (first | (simp at e_ ⊢; done) | (simp at e_ ⊢; omega))
        · have e_ := mem_kernel (rs := [9]) (by kernel_rfl) hi; (first | (simp at e_ ⊢; done) | (simp at e_ ⊢; omega))
      · intro x y z
        cases x <;> cases y <;> cases z
        · exact ne_kernel (rs := [9, 14, 15, 16]) (by kernel_rfl) (by simp)
        · exact ne_kernel (rs := [9, 14, 15]) (by kernel_rfl) (by simp)
        · exact ne_kernel (rs := [9, 14, 16]) (by kernel_rfl) (by simp)
        · exact ne_kernel (rs := [9, 14]) (by kernel_rfl) (by simp)
        · exact ne_kernel (rs := [9, 15, 16]) (by kernel_rfl) (by simp)
        · exact ne_kernel (rs := [9, 15]) (by kernel_rfl) (by simp)
        · exact ne_kernel (rs := [9, 16]) (by kernel_rfl) (by simp)
        · exact ne_kernel (rs := [9]) (by kernel_rfl) (by simp)
      · intro x y; cases x <;> cases y <;> kernel_rfl
      · intro x y; cases x <;> cases y <;> kernel_rfl
      · intro x y; cases x <;> cases y <;> kernel_rfl
      · intro x y z; cases x <;> cases y <;> cases z <;> kernel_rfl
      · rintro y z a w hSw ⟨vx, vy, vz, gx, kq, gy, rfl, Hx, Hi, Hy, bx, by_, bz⟩
        refine wpOp_step (i := 14) rfl (fun K hK => ?_)
        have HK : Shut _ := hK
        clear hK
        rw [HA0.out]
        simp only [Act.put, List.setIfInBounds_toArray, List.set_cons_zero, List.set_cons_succ]
        go_simp
        exact HK.out _ _ ⟨bel_on (Nat.le_refl _) hSw (al1_b w zCpu), _, vy, vz, gx, kq, gy, (by rw [HA0.out]; simp only [Act.put, List.setIfInBounds_toArray, List.set_cons_zero, List.set_cons_succ]), RowAt.on Hx.out (al1_b w zCpu), I.RowR.on Hi.out (al1_b w zCpu), RowAt.on Hy.out (al1_b w zCpu), VB.new hSw, by_.on (al1_b w zCpu), bz.on (al1_b w zCpu)⟩
      · rintro x z a w hSw ⟨vx, vy, vz, gx, kq, gy, rfl, Hx, Hi, Hy, bx, by_, bz⟩
        refine wpOp_step (i := 15) rfl (fun K hK => ?_)
        have HK : Shut _ := hK
        clear hK
        rw [HA0.out]
        simp only [Act.put, List.setIfInBounds_toArray, List.set_cons_zero, List.set_cons_succ]
        go_simp
        exact HK.out _ _ ⟨bel_on (Nat.le_refl _) hSw (al1_b w zAr), vx, _, vz, gx, kq, gy, (by rw [HA0.out]; simp only [Act.put, List.setIfInBounds_toArray, List.set_cons_zero, List.set_cons_succ]), RowAt.on Hx.out (al1_b w zAr), I.RowR.on Hi.out (al1_b w zAr), RowAt.on Hy.out (al1_b w zAr), bx.on (al1_b w zAr), VB.new hSw, bz.on (al1_b w zAr)⟩
      · rintro x y a w hSw ⟨vx, vy, vz, gx, kq, gy, rfl, Hx, Hi, Hy, bx, by_, bz⟩
        refine wpOp_step (i := 16) rfl (fun K hK => ?_)
        have HK : Shut _ := hK
        clear hK
        rw [HA0.out]
        simp only [Act.put, List.setIfInBounds_toArray, List.set_cons_zero, List.set_cons_succ]
        go_simp
        exact HK.out _ _ ⟨bel_on (Nat.le_refl _) hSw (al1_b w zEf), vx, vy, _, gx, kq, gy, (by rw [HA0.out]; simp only [Act.put, List.setIfInBounds_toArray, List.set_cons_zero, List.set_cons_succ]), RowAt.on Hx.out (al1_b w zEf), I.RowR.on Hi.out (al1_b w zEf), RowAt.on Hy.out (al1_b w zEf), bx.on (al1_b w zEf), by_.on (al1_b w zEf), VB.new hSw⟩
      · rintro x y z a w hSw ⟨vx, vy, vz, gx, kq, gy, rfl, Hx, Hi, Hy, bx, by_, bz⟩
        refine wpOp_step (i := 9) rfl (fun K hK => ?_)
        have HK : Shut _ := hK
        clear hK
        rw [HA0.out]
        simp only [Act.put, List.setIfInBounds_toArray, List.set_cons_zero, List.set_cons_succ]
        go_simp
        go_at_call 22
        refine (stepI (some ⟨gx, 0, none⟩) pc st n n (some ⟨kq, 0, none⟩) rl nc nc (some ⟨gy, 0, none⟩) ce m m f s t b R N HL.out hn HLC.out hnc HLA.out hm HB.out HRR.out HNN.out _ Hx.out.rd Hi.out.rd Hy.out.rd).mono ?_
        rintro e w9 ⟨gs, cs, ga, ca, rfl, hs9, ha9, hne9, hb9⟩
        go_wp2_with fail
        exact HK.out _ _ ⟨bel_on (Nat.le_refl _) hSw (hb9), vx, vy, vz, gx, kq, gy, gs, cs, ga, ca, (by rw [HA0.out]; simp only [Act.put, List.setIfInBounds_toArray, List.set_cons_zero, List.set_cons_succ]), RowAt.on Hx.out (hb9), I.RowR.on Hi.out (hb9), RowAt.on Hy.out (hb9), hs9.mono hSw.size, ha9.mono hSw.size, hne9, bx.on (hb9), by_.on (hb9), bz.on (hb9)⟩
      refine stageT (i := 10) rfl (by kernel_rfl) (fun x y z => #[true, true, true, true, true, true, true, true, true, true, false, false, false, false, x, y, z, false, false, false]) (fun x y z => #[true, true, true, true, true, true, true, true, true, true, true, false, false, false, x, y, z, false, false, false]) (fun x y z a w => ∃ (vx vy vz : Value) (gx : Nat) (kq : Nat) (gy : Nat) (gs : Nat) (cs : Nat) (ga : Nat) (ca : Nat), a = ((((((((a0.put (some 154) (.agg #[.int .i64 pc, .slice (some ⟨gx, 0, none⟩) n n])).put (some 156) (.slice (some ⟨kq, 0, none⟩) nc nc)).put (some 158) (.agg #[.slice (some ⟨gy, 0, none⟩) m m])).put (some 160) (.agg #[.int .i64 f, .int .i64 s])).put (some 162) (.tuple #[.agg #[.int .i64 (R : Res).pc, .slice (some ⟨gs, 0, none⟩) N cs], .agg #[.slice (some ⟨ga, 0, none⟩) m ca], .agg #[.int .i64 (R : Res).k, .int .i64 (R : Res).po, .int .i64 (R : Res).nu, .int .i64 (R : Res).tr]])).put (some 24) vx).put (some 25) vy).put (some 26) vz) ∧ Hid (RowAt w gx st) ∧ Hid (I.RowR w kq rl) ∧ Hid (RowAt w gy ce) ∧ Hid (OwnN w w25.heap.size gs N cs (R : Res).st) ∧ Hid (OwnN w w25.heap.size ga m ca (R : Res).ce) ∧ Hid (gs ≠ ga) ∧ VB w25 x vx w zCpu ∧ VB w25 y vy w zAr ∧ VB w25 z vz w zEf) (fun x y z a w => ∃ (vx vy vz : Value) (gx : Nat) (kq : Nat) (gy : Nat) (gs : Nat) (cs : Nat) (ga : Nat) (ca : Nat), a = (((((((((a0.put (some 154) (.agg #[.int .i64 pc, .slice (some ⟨gx, 0, none⟩) n n])).put (some 156) (.slice (some ⟨kq, 0, none⟩) nc nc)).put (some 158) (.agg #[.slice (some ⟨gy, 0, none⟩) m m])).put (some 160) (.agg #[.int .i64 f, .int .i64 s])).put (some 162) (.tuple #[.agg #[.int .i64 (R : Res).pc, .slice (some ⟨gs, 0, none⟩) N cs], .agg #[.slice (some ⟨ga, 0, none⟩) m ca], .agg #[.int .i64 (R : Res).k, .int .i64 (R : Res).po, .int .i64 (R : Res).nu, .int .i64 (R : Res).tr]])).put (some 152) (.tuple #[.agg #[.int .i64 (R : Res).pc, .slice (some ⟨gs, 0, none⟩) N cs], .agg #[.slice (some ⟨ga, 0, none⟩) m ca], .agg #[.int .i64 (R : Res).k, .int .i64 (R : Res).po, .int .i64 (R : Res).nu, .int .i64 (R : Res).tr]])).put (some 24) vx).put (some 25) vy).put (some 26) vz) ∧ Hid (RowAt w gx st) ∧ Hid (I.RowR w kq rl) ∧ Hid (RowAt w gy ce) ∧ Hid (OwnN w w25.heap.size gs N cs (R : Res).st) ∧ Hid (OwnN w w25.heap.size ga m ca (R : Res).ce) ∧ Hid (gs ≠ ga) ∧ VB w25 x vx w zCpu ∧ VB w25 y vy w zAr ∧ VB w25 z vz w zEf) 6 ?_ ?_ ?_ ?_ ?_ ?_
      · intro x y z; cases x <;> cases y <;> cases z <;> kernel_rfl
      · intro x y z; cases x <;> cases y <;> cases z <;> kernel_rfl
      · intro x y z; cases x <;> cases y <;> cases z <;> kernel_rfl
      · exact fun _ _ _ _ h => h
      · rintro x y z a w hSw ⟨vx, vy, vz, gx, kq, gy, gs, cs, ga, ca, rfl, Hx, Hi, Hy, Hs, Ha, Hn, bx, by_, bz⟩
        refine ⟨.tuple #[.agg #[.int .i64 (R : Res).pc, .slice (some ⟨gs, 0, none⟩) N cs], .agg #[.slice (some ⟨ga, 0, none⟩) m ca], .agg #[.int .i64 (R : Res).k, .int .i64 (R : Res).po, .int .i64 (R : Res).nu, .int .i64 (R : Res).tr]], Or.inl ⟨by rw [HA0.out]; rfl, ?_⟩, vx, vy, vz, gx, kq, gy, gs, cs, ga, ca, (by rw [HA0.out]; simp only [Act.put, List.setIfInBounds_toArray, List.set_cons_zero, List.set_cons_succ, List.getElem_toArray, List.getElem_cons_zero, List.getElem_cons_succ]), Hx, Hi, Hy, Hs, Ha, Hn, bx, by_, bz⟩
        rw [HA0.out]
        simp only [Act.put, List.setIfInBounds_toArray, List.set_cons_zero, List.set_cons_succ]
        intro w hSw; go_simp <;> with_reducible rfl
      refine stageT (i := 11) rfl (by kernel_rfl) (fun x y z => #[true, true, true, true, true, true, true, true, true, true, true, false, false, false, x, y, z, false, false, false]) (fun x y z => #[true, true, true, true, true, true, true, true, true, true, true, true, false, false, x, y, z, false, false, false]) (fun x y z a w => ∃ (vx vy vz : Value) (gx : Nat) (kq : Nat) (gy : Nat) (gs : Nat) (cs : Nat) (ga : Nat) (ca : Nat), a = (((((((((a0.put (some 154) (.agg #[.int .i64 pc, .slice (some ⟨gx, 0, none⟩) n n])).put (some 156) (.slice (some ⟨kq, 0, none⟩) nc nc)).put (some 158) (.agg #[.slice (some ⟨gy, 0, none⟩) m m])).put (some 160) (.agg #[.int .i64 f, .int .i64 s])).put (some 162) (.tuple #[.agg #[.int .i64 (R : Res).pc, .slice (some ⟨gs, 0, none⟩) N cs], .agg #[.slice (some ⟨ga, 0, none⟩) m ca], .agg #[.int .i64 (R : Res).k, .int .i64 (R : Res).po, .int .i64 (R : Res).nu, .int .i64 (R : Res).tr]])).put (some 152) (.tuple #[.agg #[.int .i64 (R : Res).pc, .slice (some ⟨gs, 0, none⟩) N cs], .agg #[.slice (some ⟨ga, 0, none⟩) m ca], .agg #[.int .i64 (R : Res).k, .int .i64 (R : Res).po, .int .i64 (R : Res).nu, .int .i64 (R : Res).tr]])).put (some 24) vx).put (some 25) vy).put (some 26) vz) ∧ Hid (RowAt w gx st) ∧ Hid (I.RowR w kq rl) ∧ Hid (RowAt w gy ce) ∧ Hid (OwnN w w25.heap.size gs N cs (R : Res).st) ∧ Hid (OwnN w w25.heap.size ga m ca (R : Res).ce) ∧ Hid (gs ≠ ga) ∧ VB w25 x vx w zCpu ∧ VB w25 y vy w zAr ∧ VB w25 z vz w zEf) (fun x y z a w => ∃ (vx vy vz : Value) (gx : Nat) (kq : Nat) (gy : Nat) (gs : Nat) (cs : Nat) (ga : Nat) (ca : Nat), a = ((((((((((a0.put (some 154) (.agg #[.int .i64 pc, .slice (some ⟨gx, 0, none⟩) n n])).put (some 156) (.slice (some ⟨kq, 0, none⟩) nc nc)).put (some 158) (.agg #[.slice (some ⟨gy, 0, none⟩) m m])).put (some 160) (.agg #[.int .i64 f, .int .i64 s])).put (some 162) (.tuple #[.agg #[.int .i64 (R : Res).pc, .slice (some ⟨gs, 0, none⟩) N cs], .agg #[.slice (some ⟨ga, 0, none⟩) m ca], .agg #[.int .i64 (R : Res).k, .int .i64 (R : Res).po, .int .i64 (R : Res).nu, .int .i64 (R : Res).tr]])).put (some 152) (.tuple #[.agg #[.int .i64 (R : Res).pc, .slice (some ⟨gs, 0, none⟩) N cs], .agg #[.slice (some ⟨ga, 0, none⟩) m ca], .agg #[.int .i64 (R : Res).k, .int .i64 (R : Res).po, .int .i64 (R : Res).nu, .int .i64 (R : Res).tr]])).put (some 163) (.agg #[.int .i64 (R : Res).pc, .slice (some ⟨gs, 0, none⟩) N cs])).put (some 24) vx).put (some 25) vy).put (some 26) vz) ∧ Hid (RowAt w gx st) ∧ Hid (I.RowR w kq rl) ∧ Hid (RowAt w gy ce) ∧ Hid (OwnN w w25.heap.size gs N cs (R : Res).st) ∧ Hid (OwnN w w25.heap.size ga m ca (R : Res).ce) ∧ Hid (gs ≠ ga) ∧ VB w25 x vx w zCpu ∧ VB w25 y vy w zAr ∧ VB w25 z vz w zEf) 5 ?_ ?_ ?_ ?_ ?_ ?_
      · intro x y z; cases x <;> cases y <;> cases z <;> kernel_rfl
      · intro x y z; cases x <;> cases y <;> cases z <;> kernel_rfl
      · intro x y z; cases x <;> cases y <;> cases z <;> kernel_rfl
      · exact fun _ _ _ _ h => h
      · rintro x y z a w hSw ⟨vx, vy, vz, gx, kq, gy, gs, cs, ga, ca, rfl, Hx, Hi, Hy, Hs, Ha, Hn, bx, by_, bz⟩
        refine ⟨.agg #[.int .i64 (R : Res).pc, .slice (some ⟨gs, 0, none⟩) N cs], Or.inl ⟨by rw [HA0.out]; rfl, ?_⟩, vx, vy, vz, gx, kq, gy, gs, cs, ga, ca, (by rw [HA0.out]; simp only [Act.put, List.setIfInBounds_toArray, List.set_cons_zero, List.set_cons_succ, List.getElem_toArray, List.getElem_cons_zero, List.getElem_cons_succ]), Hx, Hi, Hy, Hs, Ha, Hn, bx, by_, bz⟩
        rw [HA0.out]
        simp only [Act.put, List.setIfInBounds_toArray, List.set_cons_zero, List.set_cons_succ]
        intro w hSw; go_simp <;> with_reducible rfl
      refine stageT (i := 12) rfl (by kernel_rfl) (fun x y z => #[true, true, true, true, true, true, true, true, true, true, true, true, false, false, x, y, z, false, false, false]) (fun x y z => #[true, true, true, true, true, true, true, true, true, true, true, true, true, false, x, y, z, false, false, false]) (fun x y z a w => ∃ (vx vy vz : Value) (gx : Nat) (kq : Nat) (gy : Nat) (gs : Nat) (cs : Nat) (ga : Nat) (ca : Nat), a = ((((((((((a0.put (some 154) (.agg #[.int .i64 pc, .slice (some ⟨gx, 0, none⟩) n n])).put (some 156) (.slice (some ⟨kq, 0, none⟩) nc nc)).put (some 158) (.agg #[.slice (some ⟨gy, 0, none⟩) m m])).put (some 160) (.agg #[.int .i64 f, .int .i64 s])).put (some 162) (.tuple #[.agg #[.int .i64 (R : Res).pc, .slice (some ⟨gs, 0, none⟩) N cs], .agg #[.slice (some ⟨ga, 0, none⟩) m ca], .agg #[.int .i64 (R : Res).k, .int .i64 (R : Res).po, .int .i64 (R : Res).nu, .int .i64 (R : Res).tr]])).put (some 152) (.tuple #[.agg #[.int .i64 (R : Res).pc, .slice (some ⟨gs, 0, none⟩) N cs], .agg #[.slice (some ⟨ga, 0, none⟩) m ca], .agg #[.int .i64 (R : Res).k, .int .i64 (R : Res).po, .int .i64 (R : Res).nu, .int .i64 (R : Res).tr]])).put (some 163) (.agg #[.int .i64 (R : Res).pc, .slice (some ⟨gs, 0, none⟩) N cs])).put (some 24) vx).put (some 25) vy).put (some 26) vz) ∧ Hid (RowAt w gx st) ∧ Hid (I.RowR w kq rl) ∧ Hid (RowAt w gy ce) ∧ Hid (OwnN w w25.heap.size gs N cs (R : Res).st) ∧ Hid (OwnN w w25.heap.size ga m ca (R : Res).ce) ∧ Hid (gs ≠ ga) ∧ VB w25 x vx w zCpu ∧ VB w25 y vy w zAr ∧ VB w25 z vz w zEf) (fun x y z a w => ∃ (vx vy vz : Value) (gx : Nat) (kq : Nat) (gy : Nat) (gs : Nat) (cs : Nat) (ga : Nat) (ca : Nat), a = (((((((((((a0.put (some 154) (.agg #[.int .i64 pc, .slice (some ⟨gx, 0, none⟩) n n])).put (some 156) (.slice (some ⟨kq, 0, none⟩) nc nc)).put (some 158) (.agg #[.slice (some ⟨gy, 0, none⟩) m m])).put (some 160) (.agg #[.int .i64 f, .int .i64 s])).put (some 162) (.tuple #[.agg #[.int .i64 (R : Res).pc, .slice (some ⟨gs, 0, none⟩) N cs], .agg #[.slice (some ⟨ga, 0, none⟩) m ca], .agg #[.int .i64 (R : Res).k, .int .i64 (R : Res).po, .int .i64 (R : Res).nu, .int .i64 (R : Res).tr]])).put (some 152) (.tuple #[.agg #[.int .i64 (R : Res).pc, .slice (some ⟨gs, 0, none⟩) N cs], .agg #[.slice (some ⟨ga, 0, none⟩) m ca], .agg #[.int .i64 (R : Res).k, .int .i64 (R : Res).po, .int .i64 (R : Res).nu, .int .i64 (R : Res).tr]])).put (some 163) (.agg #[.int .i64 (R : Res).pc, .slice (some ⟨gs, 0, none⟩) N cs])).put (some 164) (.agg #[.slice (some ⟨ga, 0, none⟩) m ca])).put (some 24) vx).put (some 25) vy).put (some 26) vz) ∧ Hid (RowAt w gx st) ∧ Hid (I.RowR w kq rl) ∧ Hid (RowAt w gy ce) ∧ Hid (OwnN w w25.heap.size gs N cs (R : Res).st) ∧ Hid (OwnN w w25.heap.size ga m ca (R : Res).ce) ∧ Hid (gs ≠ ga) ∧ VB w25 x vx w zCpu ∧ VB w25 y vy w zAr ∧ VB w25 z vz w zEf) 4 ?_ ?_ ?_ ?_ ?_ ?_
      · intro x y z; cases x <;> cases y <;> cases z <;> kernel_rfl
      · intro x y z; cases x <;> cases y <;> cases z <;> kernel_rfl
      · intro x y z; cases x <;> cases y <;> cases z <;> kernel_rfl
      · exact fun _ _ _ _ h => h
      · rintro x y z a w hSw ⟨vx, vy, vz, gx, kq, gy, gs, cs, ga, ca, rfl, Hx, Hi, Hy, Hs, Ha, Hn, bx, by_, bz⟩
        refine ⟨.agg #[.slice (some ⟨ga, 0, none⟩) m ca], Or.inl ⟨by rw [HA0.out]; rfl, ?_⟩, vx, vy, vz, gx, kq, gy, gs, cs, ga, ca, (by rw [HA0.out]; simp only [Act.put, List.setIfInBounds_toArray, List.set_cons_zero, List.set_cons_succ, List.getElem_toArray, List.getElem_cons_zero, List.getElem_cons_succ]), Hx, Hi, Hy, Hs, Ha, Hn, bx, by_, bz⟩
        rw [HA0.out]
        simp only [Act.put, List.setIfInBounds_toArray, List.set_cons_zero, List.set_cons_succ]
        intro w hSw; go_simp <;> with_reducible rfl
      refine stageT (i := 13) rfl (by kernel_rfl) (fun x y z => #[true, true, true, true, true, true, true, true, true, true, true, true, true, false, x, y, z, false, false, false]) (fun x y z => #[true, true, true, true, true, true, true, true, true, true, true, true, true, true, x, y, z, false, false, false]) (fun x y z a w => ∃ (vx vy vz : Value) (gx : Nat) (kq : Nat) (gy : Nat) (gs : Nat) (cs : Nat) (ga : Nat) (ca : Nat), a = (((((((((((a0.put (some 154) (.agg #[.int .i64 pc, .slice (some ⟨gx, 0, none⟩) n n])).put (some 156) (.slice (some ⟨kq, 0, none⟩) nc nc)).put (some 158) (.agg #[.slice (some ⟨gy, 0, none⟩) m m])).put (some 160) (.agg #[.int .i64 f, .int .i64 s])).put (some 162) (.tuple #[.agg #[.int .i64 (R : Res).pc, .slice (some ⟨gs, 0, none⟩) N cs], .agg #[.slice (some ⟨ga, 0, none⟩) m ca], .agg #[.int .i64 (R : Res).k, .int .i64 (R : Res).po, .int .i64 (R : Res).nu, .int .i64 (R : Res).tr]])).put (some 152) (.tuple #[.agg #[.int .i64 (R : Res).pc, .slice (some ⟨gs, 0, none⟩) N cs], .agg #[.slice (some ⟨ga, 0, none⟩) m ca], .agg #[.int .i64 (R : Res).k, .int .i64 (R : Res).po, .int .i64 (R : Res).nu, .int .i64 (R : Res).tr]])).put (some 163) (.agg #[.int .i64 (R : Res).pc, .slice (some ⟨gs, 0, none⟩) N cs])).put (some 164) (.agg #[.slice (some ⟨ga, 0, none⟩) m ca])).put (some 24) vx).put (some 25) vy).put (some 26) vz) ∧ Hid (RowAt w gx st) ∧ Hid (I.RowR w kq rl) ∧ Hid (RowAt w gy ce) ∧ Hid (OwnN w w25.heap.size gs N cs (R : Res).st) ∧ Hid (OwnN w w25.heap.size ga m ca (R : Res).ce) ∧ Hid (gs ≠ ga) ∧ VB w25 x vx w zCpu ∧ VB w25 y vy w zAr ∧ VB w25 z vz w zEf) (fun x y z a w => ∃ (vx vy vz : Value) (gx : Nat) (kq : Nat) (gy : Nat) (gs : Nat) (cs : Nat) (ga : Nat) (ca : Nat), a = ((((((((((((a0.put (some 154) (.agg #[.int .i64 pc, .slice (some ⟨gx, 0, none⟩) n n])).put (some 156) (.slice (some ⟨kq, 0, none⟩) nc nc)).put (some 158) (.agg #[.slice (some ⟨gy, 0, none⟩) m m])).put (some 160) (.agg #[.int .i64 f, .int .i64 s])).put (some 162) (.tuple #[.agg #[.int .i64 (R : Res).pc, .slice (some ⟨gs, 0, none⟩) N cs], .agg #[.slice (some ⟨ga, 0, none⟩) m ca], .agg #[.int .i64 (R : Res).k, .int .i64 (R : Res).po, .int .i64 (R : Res).nu, .int .i64 (R : Res).tr]])).put (some 152) (.tuple #[.agg #[.int .i64 (R : Res).pc, .slice (some ⟨gs, 0, none⟩) N cs], .agg #[.slice (some ⟨ga, 0, none⟩) m ca], .agg #[.int .i64 (R : Res).k, .int .i64 (R : Res).po, .int .i64 (R : Res).nu, .int .i64 (R : Res).tr]])).put (some 163) (.agg #[.int .i64 (R : Res).pc, .slice (some ⟨gs, 0, none⟩) N cs])).put (some 164) (.agg #[.slice (some ⟨ga, 0, none⟩) m ca])).put (some 165) (.agg #[.int .i64 (R : Res).k, .int .i64 (R : Res).po, .int .i64 (R : Res).nu, .int .i64 (R : Res).tr])).put (some 24) vx).put (some 25) vy).put (some 26) vz) ∧ Hid (RowAt w gx st) ∧ Hid (I.RowR w kq rl) ∧ Hid (RowAt w gy ce) ∧ Hid (OwnN w w25.heap.size gs N cs (R : Res).st) ∧ Hid (OwnN w w25.heap.size ga m ca (R : Res).ce) ∧ Hid (gs ≠ ga) ∧ VB w25 x vx w zCpu ∧ VB w25 y vy w zAr ∧ VB w25 z vz w zEf) 3 ?_ ?_ ?_ ?_ ?_ ?_
      · intro x y z; cases x <;> cases y <;> cases z <;> kernel_rfl
      · intro x y z; cases x <;> cases y <;> cases z <;> kernel_rfl
      · intro x y z; cases x <;> cases y <;> cases z <;> kernel_rfl
      · exact fun _ _ _ _ h => h
      · rintro x y z a w hSw ⟨vx, vy, vz, gx, kq, gy, gs, cs, ga, ca, rfl, Hx, Hi, Hy, Hs, Ha, Hn, bx, by_, bz⟩
        refine ⟨.agg #[.int .i64 (R : Res).k, .int .i64 (R : Res).po, .int .i64 (R : Res).nu, .int .i64 (R : Res).tr], Or.inl ⟨by rw [HA0.out]; rfl, ?_⟩, vx, vy, vz, gx, kq, gy, gs, cs, ga, ca, (by rw [HA0.out]; simp only [Act.put, List.setIfInBounds_toArray, List.set_cons_zero, List.set_cons_succ, List.getElem_toArray, List.getElem_cons_zero, List.getElem_cons_succ]), Hx, Hi, Hy, Hs, Ha, Hn, bx, by_, bz⟩
        rw [HA0.out]
        simp only [Act.put, List.setIfInBounds_toArray, List.set_cons_zero, List.set_cons_succ]
        intro w hSw; go_simp <;> with_reducible rfl
      refine stage3e (i1 := 14) (i2 := 15) (i3 := 16) (fun x y z => #[true, true, true, true, true, true, true, true, true, true, true, true, true, true, x, y, z, false, false, false]) (fun x y z a w => ∃ (vx vy vz : Value) (gx : Nat) (kq : Nat) (gy : Nat) (gs : Nat) (cs : Nat) (ga : Nat) (ca : Nat), a = ((((((((((((a0.put (some 154) (.agg #[.int .i64 pc, .slice (some ⟨gx, 0, none⟩) n n])).put (some 156) (.slice (some ⟨kq, 0, none⟩) nc nc)).put (some 158) (.agg #[.slice (some ⟨gy, 0, none⟩) m m])).put (some 160) (.agg #[.int .i64 f, .int .i64 s])).put (some 162) (.tuple #[.agg #[.int .i64 (R : Res).pc, .slice (some ⟨gs, 0, none⟩) N cs], .agg #[.slice (some ⟨ga, 0, none⟩) m ca], .agg #[.int .i64 (R : Res).k, .int .i64 (R : Res).po, .int .i64 (R : Res).nu, .int .i64 (R : Res).tr]])).put (some 152) (.tuple #[.agg #[.int .i64 (R : Res).pc, .slice (some ⟨gs, 0, none⟩) N cs], .agg #[.slice (some ⟨ga, 0, none⟩) m ca], .agg #[.int .i64 (R : Res).k, .int .i64 (R : Res).po, .int .i64 (R : Res).nu, .int .i64 (R : Res).tr]])).put (some 163) (.agg #[.int .i64 (R : Res).pc, .slice (some ⟨gs, 0, none⟩) N cs])).put (some 164) (.agg #[.slice (some ⟨ga, 0, none⟩) m ca])).put (some 165) (.agg #[.int .i64 (R : Res).k, .int .i64 (R : Res).po, .int .i64 (R : Res).nu, .int .i64 (R : Res).tr])).put (some 24) vx).put (some 25) vy).put (some 26) vz) ∧ Hid (RowAt w gx st) ∧ Hid (I.RowR w kq rl) ∧ Hid (RowAt w gy ce) ∧ Hid (OwnN w w25.heap.size gs N cs (R : Res).st) ∧ Hid (OwnN w w25.heap.size ga m ca (R : Res).ce) ∧ Hid (gs ≠ ga) ∧ VB w25 x vx w zCpu ∧ VB w25 y vy w zAr ∧ VB w25 z vz w zEf) 3 ?_ ?_ ?_ ?_ ?_ ?_ ?_ ?_ ?_
      · intro x y z hp i hi
        cases x <;> cases y <;> cases z
        · have e_ := mem_kernel (rs := [14, 15, 16]) (by kernel_rfl) hi; (first | (simp at e_ ⊢; done) | (simp at e_ ⊢; omega))
        · have e_ := mem_kernel (rs := [14, 15]) (by kernel_rfl) hi; (first | (simp at e_ ⊢; done) | (simp at e_ ⊢; omega))
        · have e_ := mem_kernel (rs := [14, 16]) (by kernel_rfl) hi; (first | (simp at e_ ⊢; done) | (simp at e_ ⊢; omega))
        · have e_ := mem_kernel (rs := [14]) (by kernel_rfl) hi; (first | (simp at e_ ⊢; done) | (simp at e_ ⊢; omega))
        · have e_ := mem_kernel (rs := [15, 16]) (by kernel_rfl) hi; (first | (simp at e_ ⊢; done) | (simp at e_ ⊢; omega))
        · have e_ := mem_kernel (rs := [15]) (by kernel_rfl) hi; (first | (simp at e_ ⊢; done) | (simp at e_ ⊢; omega))
        · have e_ := mem_kernel (rs := [16]) (by kernel_rfl) hi; (first | (simp at e_ ⊢; done) | (simp at e_ ⊢; omega))
        · simp at hp
      · intro x y z
        cases x <;> cases y <;> cases z
        · exact ne_kernel (rs := [14, 15, 16]) (by kernel_rfl) (by simp)
        · exact ne_kernel (rs := [14, 15]) (by kernel_rfl) (by simp)
        · exact ne_kernel (rs := [14, 16]) (by kernel_rfl) (by simp)
        · exact ne_kernel (rs := [14]) (by kernel_rfl) (by simp)
        · exact ne_kernel (rs := [15, 16]) (by kernel_rfl) (by simp)
        · exact ne_kernel (rs := [15]) (by kernel_rfl) (by simp)
        · exact ne_kernel (rs := [16]) (by kernel_rfl) (by simp)
        · exact ne_kernel (rs := [17]) (by kernel_rfl) (by simp)
      · intro x y; cases x <;> cases y <;> kernel_rfl
      · intro x y; cases x <;> cases y <;> kernel_rfl
      · intro x y; cases x <;> cases y <;> kernel_rfl
      · rintro y z a w hSw ⟨vx, vy, vz, gx, kq, gy, gs, cs, ga, ca, rfl, Hx, Hi, Hy, Hs, Ha, Hn, bx, by_, bz⟩
        refine wpOp_step (i := 14) rfl (fun K hK => ?_)
        have HK : Shut _ := hK
        clear hK
        rw [HA0.out]
        simp only [Act.put, List.setIfInBounds_toArray, List.set_cons_zero, List.set_cons_succ]
        go_simp
        exact HK.out _ _ ⟨bel_on (Nat.le_refl _) hSw (al1_b w zCpu), _, vy, vz, gx, kq, gy, gs, cs, ga, ca, (by rw [HA0.out]; simp only [Act.put, List.setIfInBounds_toArray, List.set_cons_zero, List.set_cons_succ]), RowAt.on Hx.out (al1_b w zCpu), I.RowR.on Hi.out (al1_b w zCpu), RowAt.on Hy.out (al1_b w zCpu), Hs.out.on (al1_b w zCpu), Ha.out.on (al1_b w zCpu), Hn.out, VB.new hSw, by_.on (al1_b w zCpu), bz.on (al1_b w zCpu)⟩
      · rintro x z a w hSw ⟨vx, vy, vz, gx, kq, gy, gs, cs, ga, ca, rfl, Hx, Hi, Hy, Hs, Ha, Hn, bx, by_, bz⟩
        refine wpOp_step (i := 15) rfl (fun K hK => ?_)
        have HK : Shut _ := hK
        clear hK
        rw [HA0.out]
        simp only [Act.put, List.setIfInBounds_toArray, List.set_cons_zero, List.set_cons_succ]
        go_simp
        exact HK.out _ _ ⟨bel_on (Nat.le_refl _) hSw (al1_b w zAr), vx, _, vz, gx, kq, gy, gs, cs, ga, ca, (by rw [HA0.out]; simp only [Act.put, List.setIfInBounds_toArray, List.set_cons_zero, List.set_cons_succ]), RowAt.on Hx.out (al1_b w zAr), I.RowR.on Hi.out (al1_b w zAr), RowAt.on Hy.out (al1_b w zAr), Hs.out.on (al1_b w zAr), Ha.out.on (al1_b w zAr), Hn.out, bx.on (al1_b w zAr), VB.new hSw, bz.on (al1_b w zAr)⟩
      · rintro x y a w hSw ⟨vx, vy, vz, gx, kq, gy, gs, cs, ga, ca, rfl, Hx, Hi, Hy, Hs, Ha, Hn, bx, by_, bz⟩
        refine wpOp_step (i := 16) rfl (fun K hK => ?_)
        have HK : Shut _ := hK
        clear hK
        rw [HA0.out]
        simp only [Act.put, List.setIfInBounds_toArray, List.set_cons_zero, List.set_cons_succ]
        go_simp
        exact HK.out _ _ ⟨bel_on (Nat.le_refl _) hSw (al1_b w zEf), vx, vy, _, gx, kq, gy, gs, cs, ga, ca, (by rw [HA0.out]; simp only [Act.put, List.setIfInBounds_toArray, List.set_cons_zero, List.set_cons_succ]), RowAt.on Hx.out (al1_b w zEf), I.RowR.on Hi.out (al1_b w zEf), RowAt.on Hy.out (al1_b w zEf), Hs.out.on (al1_b w zEf), Ha.out.on (al1_b w zEf), Hn.out, bx.on (al1_b w zEf), by_.on (al1_b w zEf), VB.new hSw⟩
      · rintro f a w hf hSw ⟨vx, vy, vz, gx, kq, gy, gs, cs, ga, ca, rfl, Hx, Hi, Hy, Hs, Ha, Hn, bx, by_, bz⟩
        obtain ⟨f2, rfl⟩ : ∃ f2, f = f2 + 3 := ⟨f - 3, by omega⟩
        obtain ⟨b1, rfl, hz1, l1⟩ := bx rfl
        obtain ⟨b2, rfl, hz2, l2⟩ := by_ rfl
        obtain ⟨b3, rfl, hz3, l3⟩ := bz rfl
        have kz1 := row2_cells hz1
        have kz2 := row1_cells hz2
        have kz3 := row4_cells hz3
        have m12 := row_ne hz1 hz2 (by intro e; cases e)
        have m13 := row_ne hz1 hz3 (by intro e; cases e)
        have m23 := row_ne hz2 hz3 (by intro e; cases e)
        have m21 := m12.symm
        have m31 := m13.symm
        have m32 := m23.symm
        rw [HA0.out]
        simp only [Act.put, List.setIfInBounds_toArray, List.set_cons_zero, List.set_cons_succ]
        refine wpAnyH_ready (rs := [17]) (by kernel_rfl) (by simp) ?_
        refine AllReadyH.cons rfl (fun K hK => ?_) AllReadyH.nil
        go_simp
        refine hK.out _ _ ?_ (fun hHeld2 => ?_)
        · exact (Below.setCell (Below.setCell hSw l1 _) l1 _)
        have hT1 := hHeld2
        clear hHeld2 hK K
        refine wpAnyH_ready (rs := [18]) (by kernel_rfl) (by simp) ?_
        refine AllReadyH.cons rfl (fun K hK => ?_) AllReadyH.nil
        go_simp
        refine hK.out _ _ ?_ (fun hHeld2 => ?_)
        · exact (Below.setCell hT1 l2 _)
        have hT2 := hHeld2
        clear hHeld2 hK K
        refine wpAnyH_ready (rs := [19]) (by kernel_rfl) (by simp) ?_
        refine AllReadyH.cons rfl (fun K hK => ?_) AllReadyH.nil
        go_simp
        refine hK.out _ _ ?_ (fun hHeld2 => ?_)
        · exact (Below.setCell (Below.setCell (Below.setCell (Below.setCell hT2 l3 _) l3 _) l3 _) l3 _)
        have hT3 := hHeld2
        clear hHeld2 hK K
        refine wpAnyH_done (by kernel_rfl) ?_ _
        (try go_wp2_with fail)
        go_meet
        refine ⟨b1, b2, b3, gs, cs, ga, ca, rfl, rfl, rfl, hid ?_⟩
        with_reducible exact out_stores (R := R) hz1 hz2 hz3 Hs.out Ha.out Hn.out l1 l2 l3 hSw
  case rest =>
  rename World => w26
  obtain ⟨b1_26, b2_26, b3_26, gs26, cs26, ga26, ca26, rfl, rfl, rfl, HO26⟩ := hcut
  have N_419 : Hid ((w25).heap.size ≤ (w26).heap.size) := (HO26.out.bel).size
  have FW_420 : Hid (Below w.heap.size w (w26)) := bel_on (Nat.le_refl _) FW_405.out (HO26.out.bel)
  have FC_421 : Hid ((w26).heap[w.heap.size]? = some (.cells #[.int .i64 pc, .slice a n cap] 24)) := row_on FC_406.out (HO26.out.bel)
  have FR_422 : Hid ((w26).heap[w.heap.size + 1]? = some (.cells #[.slice qa m ca] 33)) := row_on FR_407.out (HO26.out.bel)
  have FG_423 : Hid ((w26).heap[w.heap.size + 1 + 1]? = some (.cells #[.int .i64 f, .int .i64 s] 35)) := row_on FG_408.out (HO26.out.bel)
  have FP3_424 : Hid ((w26).heap[b1_3]? = some (.cells #[.int .i64 R.pc, .slice (some ⟨gs3, 0, none⟩) N cs3] 27)) := row_on FP3_409.out (HO26.out.bel)
  have FQ3_425 : Hid ((w26).heap[b2_3]? = some (.cells #[.slice (some ⟨ga3, 0, none⟩) m ca3] 38)) := row_on FQ3_410.out (HO26.out.bel)
  have FE3_426 : Hid ((w26).heap[b3_3]? = some (.cells #[.int .i64 R.k, .int .i64 R.po, .int .i64 R.nu, .int .i64 R.tr] 40)) := row_on FE3_411.out (HO26.out.bel)
  have FS3_427 : Hid (OwnN (w26) w2.heap.size gs3 N cs3 R.st) := FS3_412.out.on (HO26.out.bel)
  have FA3_428 : Hid (OwnN (w26) w2.heap.size ga3 m ca3 R.ce) := FA3_413.out.on (HO26.out.bel)
  have FP8_429 : Hid ((w26).heap[b1_8]? = some (.cells #[.int .i64 R.pc, .slice (some ⟨gs8, 0, none⟩) N cs8] 27)) := row_on FP8_414.out (HO26.out.bel)
  have FQ8_430 : Hid ((w26).heap[b2_8]? = some (.cells #[.slice (some ⟨ga8, 0, none⟩) m ca8] 38)) := row_on FQ8_415.out (HO26.out.bel)
  have FE8_431 : Hid ((w26).heap[b3_8]? = some (.cells #[.int .i64 R.k, .int .i64 R.po, .int .i64 R.nu, .int .i64 R.tr] 40)) := row_on FE8_416.out (HO26.out.bel)
  have FS8_432 : Hid (OwnN (w26) W7.heap.size gs8 N cs8 (marks 1 N)) := FS8_417.out.on (HO26.out.bel)
  have FA8_433 : Hid (OwnN (w26) W7.heap.size ga8 m ca8 (marks (1 + N) m)) := FA8_418.out.on (HO26.out.bel)
  clear FW_405 FC_406 FR_407 FG_408 FP3_409 FQ3_410 FE3_411 FS3_412 FA3_413 FP8_414 FQ8_415 FE8_416 FS8_417 FA8_418
  have FP26_434 : Hid ((w26).heap[b1_26]? = some (.cells #[.int .i64 R.pc, .slice (some ⟨gs26, 0, none⟩) N cs26] 27)) := HO26.out.1
  have FQ26_435 : Hid ((w26).heap[b2_26]? = some (.cells #[.slice (some ⟨ga26, 0, none⟩) m ca26] 38)) := HO26.out.2.1
  have FE26_436 : Hid ((w26).heap[b3_26]? = some (.cells #[.int .i64 R.k, .int .i64 R.po, .int .i64 R.nu, .int .i64 R.tr] 40)) := HO26.out.2.2.1
  have FS26_437 : Hid (OwnN (w26) w25.heap.size gs26 N cs26 R.st) := HO26.out.2.2.2.1
  have FA26_438 : Hid (OwnN (w26) w25.heap.size ga26 m ca26 R.ce) := HO26.out.2.2.2.2.1
  have N_439 : Hid (gs26 ≠ ga26 ∧ gs26 ≠ b1_26 ∧ gs26 ≠ b2_26 ∧ gs26 ≠ b3_26 ∧ ga26 ≠ b1_26 ∧ ga26 ≠ b2_26 ∧ ga26 ≠ b3_26) := ⟨HO26.out.2.2.2.2.2.1, own_ne HO26.out.2.2.2.1 HO26.out.1 (by decide), own_ne HO26.out.2.2.2.1 HO26.out.2.1 (by decide), own_ne HO26.out.2.2.2.1 HO26.out.2.2.1 (by decide), own_ne HO26.out.2.2.2.2.1 HO26.out.1 (by decide), own_ne HO26.out.2.2.2.2.1 HO26.out.2.1 (by decide), own_ne HO26.out.2.2.2.2.1 HO26.out.2.2.1 (by decide)⟩
  have N_440 : Hid (w25.heap.size ≤ b1_26 ∧ w25.heap.size ≤ b2_26 ∧ w25.heap.size ≤ b3_26 ∧ w25.heap.size ≤ gs26 ∧ w25.heap.size ≤ ga26) := ⟨HO26.out.2.2.2.2.2.2.1, HO26.out.2.2.2.2.2.2.2.1, HO26.out.2.2.2.2.2.2.2.2.1, HO26.out.2.2.2.1.ge, HO26.out.2.2.2.2.1.ge⟩
  have N_441 : Hid (b1_26 < w26.heap.size ∧ b2_26 < w26.heap.size ∧ b3_26 < w26.heap.size ∧ gs26 < w26.heap.size ∧ ga26 < w26.heap.size) := ⟨row_lt HO26.out.1, row_lt HO26.out.2.1, row_lt HO26.out.2.2.1, HO26.out.2.2.2.1.lt, HO26.out.2.2.2.2.1.lt⟩
  clear HO26
  clear Q300 Q301 Q302 Q303 Q304 HS30 HI30 HA30
  have kP26 := row2_cells FP26_434.out
  have kP3 := row2_cells FP3_424.out
  go_wp2_with fail
  clear kP26 kP3
  refine (eqC (some ⟨gs26, 0, none⟩) (some ⟨gs3, 0, none⟩) R.pc R.st N cs26 cs3 HNN.out HN1.out _ FS26_437.out.rd FS3_427.out.rd).mono ?_
  rintro e w27 ⟨rfl, hb27⟩
  have N_442 : Hid ((w26).heap.size ≤ (w27).heap.size) := (hb27).size
  have FW_443 : Hid (Below w.heap.size w (w27)) := bel_on (Nat.le_refl _) FW_420.out (hb27)
  have FC_444 : Hid ((w27).heap[w.heap.size]? = some (.cells #[.int .i64 pc, .slice a n cap] 24)) := row_on FC_421.out (hb27)
  have FR_445 : Hid ((w27).heap[w.heap.size + 1]? = some (.cells #[.slice qa m ca] 33)) := row_on FR_422.out (hb27)
  have FG_446 : Hid ((w27).heap[w.heap.size + 1 + 1]? = some (.cells #[.int .i64 f, .int .i64 s] 35)) := row_on FG_423.out (hb27)
  have FP3_447 : Hid ((w27).heap[b1_3]? = some (.cells #[.int .i64 R.pc, .slice (some ⟨gs3, 0, none⟩) N cs3] 27)) := row_on FP3_424.out (hb27)
  have FQ3_448 : Hid ((w27).heap[b2_3]? = some (.cells #[.slice (some ⟨ga3, 0, none⟩) m ca3] 38)) := row_on FQ3_425.out (hb27)
  have FE3_449 : Hid ((w27).heap[b3_3]? = some (.cells #[.int .i64 R.k, .int .i64 R.po, .int .i64 R.nu, .int .i64 R.tr] 40)) := row_on FE3_426.out (hb27)
  have FS3_450 : Hid (OwnN (w27) w2.heap.size gs3 N cs3 R.st) := FS3_427.out.on (hb27)
  have FA3_451 : Hid (OwnN (w27) w2.heap.size ga3 m ca3 R.ce) := FA3_428.out.on (hb27)
  have FP8_452 : Hid ((w27).heap[b1_8]? = some (.cells #[.int .i64 R.pc, .slice (some ⟨gs8, 0, none⟩) N cs8] 27)) := row_on FP8_429.out (hb27)
  have FQ8_453 : Hid ((w27).heap[b2_8]? = some (.cells #[.slice (some ⟨ga8, 0, none⟩) m ca8] 38)) := row_on FQ8_430.out (hb27)
  have FE8_454 : Hid ((w27).heap[b3_8]? = some (.cells #[.int .i64 R.k, .int .i64 R.po, .int .i64 R.nu, .int .i64 R.tr] 40)) := row_on FE8_431.out (hb27)
  have FS8_455 : Hid (OwnN (w27) W7.heap.size gs8 N cs8 (marks 1 N)) := FS8_432.out.on (hb27)
  have FA8_456 : Hid (OwnN (w27) W7.heap.size ga8 m ca8 (marks (1 + N) m)) := FA8_433.out.on (hb27)
  have FP26_457 : Hid ((w27).heap[b1_26]? = some (.cells #[.int .i64 R.pc, .slice (some ⟨gs26, 0, none⟩) N cs26] 27)) := row_on FP26_434.out (hb27)
  have FQ26_458 : Hid ((w27).heap[b2_26]? = some (.cells #[.slice (some ⟨ga26, 0, none⟩) m ca26] 38)) := row_on FQ26_435.out (hb27)
  have FE26_459 : Hid ((w27).heap[b3_26]? = some (.cells #[.int .i64 R.k, .int .i64 R.po, .int .i64 R.nu, .int .i64 R.tr] 40)) := row_on FE26_436.out (hb27)
  have FS26_460 : Hid (OwnN (w27) w25.heap.size gs26 N cs26 R.st) := FS26_437.out.on (hb27)
  have FA26_461 : Hid (OwnN (w27) w25.heap.size ga26 m ca26 R.ce) := FA26_438.out.on (hb27)
  clear FW_420 FC_421 FR_422 FG_423 FP3_424 FQ3_425 FE3_426 FS3_427 FA3_428 FP8_429 FQ8_430 FE8_431 FS8_432 FA8_433 FP26_434 FQ26_435 FE26_436 FS26_437 FA26_438 hb27
  have kQ26 := row1_cells FQ26_458.out
  have kQ3 := row1_cells FQ3_448.out
  go_wp2_with fail
  clear kQ26 kQ3
  refine (eqA (some ⟨ga26, 0, none⟩) (some ⟨ga3, 0, none⟩) R.ce m ca26 ca3 HCE.out hm _ FA26_461.out.rd FA3_451.out.rd).mono ?_
  rintro e w28 ⟨rfl, hb28⟩
  have N_462 : Hid ((w27).heap.size ≤ (w28).heap.size) := (hb28).size
  have FW_463 : Hid (Below w.heap.size w (w28)) := bel_on (Nat.le_refl _) FW_443.out (hb28)
  have FC_464 : Hid ((w28).heap[w.heap.size]? = some (.cells #[.int .i64 pc, .slice a n cap] 24)) := row_on FC_444.out (hb28)
  have FR_465 : Hid ((w28).heap[w.heap.size + 1]? = some (.cells #[.slice qa m ca] 33)) := row_on FR_445.out (hb28)
  have FG_466 : Hid ((w28).heap[w.heap.size + 1 + 1]? = some (.cells #[.int .i64 f, .int .i64 s] 35)) := row_on FG_446.out (hb28)
  have FP3_467 : Hid ((w28).heap[b1_3]? = some (.cells #[.int .i64 R.pc, .slice (some ⟨gs3, 0, none⟩) N cs3] 27)) := row_on FP3_447.out (hb28)
  have FQ3_468 : Hid ((w28).heap[b2_3]? = some (.cells #[.slice (some ⟨ga3, 0, none⟩) m ca3] 38)) := row_on FQ3_448.out (hb28)
  have FE3_469 : Hid ((w28).heap[b3_3]? = some (.cells #[.int .i64 R.k, .int .i64 R.po, .int .i64 R.nu, .int .i64 R.tr] 40)) := row_on FE3_449.out (hb28)
  have FS3_470 : Hid (OwnN (w28) w2.heap.size gs3 N cs3 R.st) := FS3_450.out.on (hb28)
  have FA3_471 : Hid (OwnN (w28) w2.heap.size ga3 m ca3 R.ce) := FA3_451.out.on (hb28)
  have FP8_472 : Hid ((w28).heap[b1_8]? = some (.cells #[.int .i64 R.pc, .slice (some ⟨gs8, 0, none⟩) N cs8] 27)) := row_on FP8_452.out (hb28)
  have FQ8_473 : Hid ((w28).heap[b2_8]? = some (.cells #[.slice (some ⟨ga8, 0, none⟩) m ca8] 38)) := row_on FQ8_453.out (hb28)
  have FE8_474 : Hid ((w28).heap[b3_8]? = some (.cells #[.int .i64 R.k, .int .i64 R.po, .int .i64 R.nu, .int .i64 R.tr] 40)) := row_on FE8_454.out (hb28)
  have FS8_475 : Hid (OwnN (w28) W7.heap.size gs8 N cs8 (marks 1 N)) := FS8_455.out.on (hb28)
  have FA8_476 : Hid (OwnN (w28) W7.heap.size ga8 m ca8 (marks (1 + N) m)) := FA8_456.out.on (hb28)
  have FP26_477 : Hid ((w28).heap[b1_26]? = some (.cells #[.int .i64 R.pc, .slice (some ⟨gs26, 0, none⟩) N cs26] 27)) := row_on FP26_457.out (hb28)
  have FQ26_478 : Hid ((w28).heap[b2_26]? = some (.cells #[.slice (some ⟨ga26, 0, none⟩) m ca26] 38)) := row_on FQ26_458.out (hb28)
  have FE26_479 : Hid ((w28).heap[b3_26]? = some (.cells #[.int .i64 R.k, .int .i64 R.po, .int .i64 R.nu, .int .i64 R.tr] 40)) := row_on FE26_459.out (hb28)
  have FS26_480 : Hid (OwnN (w28) w25.heap.size gs26 N cs26 R.st) := FS26_460.out.on (hb28)
  have FA26_481 : Hid (OwnN (w28) w25.heap.size ga26 m ca26 R.ce) := FA26_461.out.on (hb28)
  clear FW_443 FC_444 FR_445 FG_446 FP3_447 FQ3_448 FE3_449 FS3_450 FA3_451 FP8_452 FQ8_453 FE8_454 FS8_455 FA8_456 FP26_457 FQ26_458 FE26_459 FS26_460 FA26_461 hb28
  have kE26 := row4_cells FE26_479.out
  have kE3 := row4_cells FE3_469.out
  go_wp2_with fail
  clear kE26 kE3
  refine (eqE R.k R.po R.nu R.tr _).mono ?_
  rintro e w29 ⟨rfl, hb29⟩
  have N_482 : Hid ((w28).heap.size ≤ (w29).heap.size) := (hb29).size
  have FW_483 : Hid (Below w.heap.size w (w29)) := bel_on (Nat.le_refl _) FW_463.out (hb29)
  have FC_484 : Hid ((w29).heap[w.heap.size]? = some (.cells #[.int .i64 pc, .slice a n cap] 24)) := row_on FC_464.out (hb29)
  have FR_485 : Hid ((w29).heap[w.heap.size + 1]? = some (.cells #[.slice qa m ca] 33)) := row_on FR_465.out (hb29)
  have FG_486 : Hid ((w29).heap[w.heap.size + 1 + 1]? = some (.cells #[.int .i64 f, .int .i64 s] 35)) := row_on FG_466.out (hb29)
  have FP3_487 : Hid ((w29).heap[b1_3]? = some (.cells #[.int .i64 R.pc, .slice (some ⟨gs3, 0, none⟩) N cs3] 27)) := row_on FP3_467.out (hb29)
  have FQ3_488 : Hid ((w29).heap[b2_3]? = some (.cells #[.slice (some ⟨ga3, 0, none⟩) m ca3] 38)) := row_on FQ3_468.out (hb29)
  have FE3_489 : Hid ((w29).heap[b3_3]? = some (.cells #[.int .i64 R.k, .int .i64 R.po, .int .i64 R.nu, .int .i64 R.tr] 40)) := row_on FE3_469.out (hb29)
  have FS3_490 : Hid (OwnN (w29) w2.heap.size gs3 N cs3 R.st) := FS3_470.out.on (hb29)
  have FA3_491 : Hid (OwnN (w29) w2.heap.size ga3 m ca3 R.ce) := FA3_471.out.on (hb29)
  have FP8_492 : Hid ((w29).heap[b1_8]? = some (.cells #[.int .i64 R.pc, .slice (some ⟨gs8, 0, none⟩) N cs8] 27)) := row_on FP8_472.out (hb29)
  have FQ8_493 : Hid ((w29).heap[b2_8]? = some (.cells #[.slice (some ⟨ga8, 0, none⟩) m ca8] 38)) := row_on FQ8_473.out (hb29)
  have FE8_494 : Hid ((w29).heap[b3_8]? = some (.cells #[.int .i64 R.k, .int .i64 R.po, .int .i64 R.nu, .int .i64 R.tr] 40)) := row_on FE8_474.out (hb29)
  have FS8_495 : Hid (OwnN (w29) W7.heap.size gs8 N cs8 (marks 1 N)) := FS8_475.out.on (hb29)
  have FA8_496 : Hid (OwnN (w29) W7.heap.size ga8 m ca8 (marks (1 + N) m)) := FA8_476.out.on (hb29)
  have FP26_497 : Hid ((w29).heap[b1_26]? = some (.cells #[.int .i64 R.pc, .slice (some ⟨gs26, 0, none⟩) N cs26] 27)) := row_on FP26_477.out (hb29)
  have FQ26_498 : Hid ((w29).heap[b2_26]? = some (.cells #[.slice (some ⟨ga26, 0, none⟩) m ca26] 38)) := row_on FQ26_478.out (hb29)
  have FE26_499 : Hid ((w29).heap[b3_26]? = some (.cells #[.int .i64 R.k, .int .i64 R.po, .int .i64 R.nu, .int .i64 R.tr] 40)) := row_on FE26_479.out (hb29)
  have FS26_500 : Hid (OwnN (w29) w25.heap.size gs26 N cs26 R.st) := FS26_480.out.on (hb29)
  have FA26_501 : Hid (OwnN (w29) w25.heap.size ga26 m ca26 R.ce) := FA26_481.out.on (hb29)
  clear FW_463 FC_464 FR_465 FG_466 FP3_467 FQ3_468 FE3_469 FS3_470 FA3_471 FP8_472 FQ8_473 FE8_474 FS8_475 FA8_476 FP26_477 FQ26_478 FE26_479 FS26_480 FA26_481 hb29
  have kP8 := row2_cells FP8_492.out
  go_wp2_with fail
  clear kP8
  refine (heldC (some ⟨gs8, 0, none⟩) R.pc N cs8 1 1 rfl HN1.out (by omega) _ FS8_495.out.rd).mono ?_
  rintro e w30 ⟨rfl, hb30⟩
  have N_502 : Hid ((w29).heap.size ≤ (w30).heap.size) := (hb30).size
  have FW_503 : Hid (Below w.heap.size w (w30)) := bel_on (Nat.le_refl _) FW_483.out (hb30)
  have FC_504 : Hid ((w30).heap[w.heap.size]? = some (.cells #[.int .i64 pc, .slice a n cap] 24)) := row_on FC_484.out (hb30)
  have FR_505 : Hid ((w30).heap[w.heap.size + 1]? = some (.cells #[.slice qa m ca] 33)) := row_on FR_485.out (hb30)
  have FG_506 : Hid ((w30).heap[w.heap.size + 1 + 1]? = some (.cells #[.int .i64 f, .int .i64 s] 35)) := row_on FG_486.out (hb30)
  have FP3_507 : Hid ((w30).heap[b1_3]? = some (.cells #[.int .i64 R.pc, .slice (some ⟨gs3, 0, none⟩) N cs3] 27)) := row_on FP3_487.out (hb30)
  have FQ3_508 : Hid ((w30).heap[b2_3]? = some (.cells #[.slice (some ⟨ga3, 0, none⟩) m ca3] 38)) := row_on FQ3_488.out (hb30)
  have FE3_509 : Hid ((w30).heap[b3_3]? = some (.cells #[.int .i64 R.k, .int .i64 R.po, .int .i64 R.nu, .int .i64 R.tr] 40)) := row_on FE3_489.out (hb30)
  have FS3_510 : Hid (OwnN (w30) w2.heap.size gs3 N cs3 R.st) := FS3_490.out.on (hb30)
  have FA3_511 : Hid (OwnN (w30) w2.heap.size ga3 m ca3 R.ce) := FA3_491.out.on (hb30)
  have FP8_512 : Hid ((w30).heap[b1_8]? = some (.cells #[.int .i64 R.pc, .slice (some ⟨gs8, 0, none⟩) N cs8] 27)) := row_on FP8_492.out (hb30)
  have FQ8_513 : Hid ((w30).heap[b2_8]? = some (.cells #[.slice (some ⟨ga8, 0, none⟩) m ca8] 38)) := row_on FQ8_493.out (hb30)
  have FE8_514 : Hid ((w30).heap[b3_8]? = some (.cells #[.int .i64 R.k, .int .i64 R.po, .int .i64 R.nu, .int .i64 R.tr] 40)) := row_on FE8_494.out (hb30)
  have FS8_515 : Hid (OwnN (w30) W7.heap.size gs8 N cs8 (marks 1 N)) := FS8_495.out.on (hb30)
  have FA8_516 : Hid (OwnN (w30) W7.heap.size ga8 m ca8 (marks (1 + N) m)) := FA8_496.out.on (hb30)
  have FP26_517 : Hid ((w30).heap[b1_26]? = some (.cells #[.int .i64 R.pc, .slice (some ⟨gs26, 0, none⟩) N cs26] 27)) := row_on FP26_497.out (hb30)
  have FQ26_518 : Hid ((w30).heap[b2_26]? = some (.cells #[.slice (some ⟨ga26, 0, none⟩) m ca26] 38)) := row_on FQ26_498.out (hb30)
  have FE26_519 : Hid ((w30).heap[b3_26]? = some (.cells #[.int .i64 R.k, .int .i64 R.po, .int .i64 R.nu, .int .i64 R.tr] 40)) := row_on FE26_499.out (hb30)
  have FS26_520 : Hid (OwnN (w30) w25.heap.size gs26 N cs26 R.st) := FS26_500.out.on (hb30)
  have FA26_521 : Hid (OwnN (w30) w25.heap.size ga26 m ca26 R.ce) := FA26_501.out.on (hb30)
  clear FW_483 FC_484 FR_485 FG_486 FP3_487 FQ3_488 FE3_489 FS3_490 FA3_491 FP8_492 FQ8_493 FE8_494 FS8_495 FA8_496 FP26_497 FQ26_498 FE26_499 FS26_500 FA26_501 hb30
  have kQ8 := row1_cells FQ8_513.out
  go_wp2_with fail
  clear kQ8
  refine (heldAr (some ⟨ga8, 0, none⟩) m ca8 (1 + N) (1 + (N : Int)) (by omega) hm (by omega) _ FA8_516.out.rd).mono ?_
  rintro e w31 ⟨rfl, hb31⟩
  have N_522 : Hid ((w30).heap.size ≤ (w31).heap.size) := (hb31).size
  have FW_523 : Hid (Below w.heap.size w (w31)) := bel_on (Nat.le_refl _) FW_503.out (hb31)
  have FC_524 : Hid ((w31).heap[w.heap.size]? = some (.cells #[.int .i64 pc, .slice a n cap] 24)) := row_on FC_504.out (hb31)
  have FR_525 : Hid ((w31).heap[w.heap.size + 1]? = some (.cells #[.slice qa m ca] 33)) := row_on FR_505.out (hb31)
  have FG_526 : Hid ((w31).heap[w.heap.size + 1 + 1]? = some (.cells #[.int .i64 f, .int .i64 s] 35)) := row_on FG_506.out (hb31)
  have FP3_527 : Hid ((w31).heap[b1_3]? = some (.cells #[.int .i64 R.pc, .slice (some ⟨gs3, 0, none⟩) N cs3] 27)) := row_on FP3_507.out (hb31)
  have FQ3_528 : Hid ((w31).heap[b2_3]? = some (.cells #[.slice (some ⟨ga3, 0, none⟩) m ca3] 38)) := row_on FQ3_508.out (hb31)
  have FE3_529 : Hid ((w31).heap[b3_3]? = some (.cells #[.int .i64 R.k, .int .i64 R.po, .int .i64 R.nu, .int .i64 R.tr] 40)) := row_on FE3_509.out (hb31)
  have FS3_530 : Hid (OwnN (w31) w2.heap.size gs3 N cs3 R.st) := FS3_510.out.on (hb31)
  have FA3_531 : Hid (OwnN (w31) w2.heap.size ga3 m ca3 R.ce) := FA3_511.out.on (hb31)
  have FP8_532 : Hid ((w31).heap[b1_8]? = some (.cells #[.int .i64 R.pc, .slice (some ⟨gs8, 0, none⟩) N cs8] 27)) := row_on FP8_512.out (hb31)
  have FQ8_533 : Hid ((w31).heap[b2_8]? = some (.cells #[.slice (some ⟨ga8, 0, none⟩) m ca8] 38)) := row_on FQ8_513.out (hb31)
  have FE8_534 : Hid ((w31).heap[b3_8]? = some (.cells #[.int .i64 R.k, .int .i64 R.po, .int .i64 R.nu, .int .i64 R.tr] 40)) := row_on FE8_514.out (hb31)
  have FS8_535 : Hid (OwnN (w31) W7.heap.size gs8 N cs8 (marks 1 N)) := FS8_515.out.on (hb31)
  have FA8_536 : Hid (OwnN (w31) W7.heap.size ga8 m ca8 (marks (1 + N) m)) := FA8_516.out.on (hb31)
  have FP26_537 : Hid ((w31).heap[b1_26]? = some (.cells #[.int .i64 R.pc, .slice (some ⟨gs26, 0, none⟩) N cs26] 27)) := row_on FP26_517.out (hb31)
  have FQ26_538 : Hid ((w31).heap[b2_26]? = some (.cells #[.slice (some ⟨ga26, 0, none⟩) m ca26] 38)) := row_on FQ26_518.out (hb31)
  have FE26_539 : Hid ((w31).heap[b3_26]? = some (.cells #[.int .i64 R.k, .int .i64 R.po, .int .i64 R.nu, .int .i64 R.tr] 40)) := row_on FE26_519.out (hb31)
  have FS26_540 : Hid (OwnN (w31) w25.heap.size gs26 N cs26 R.st) := FS26_520.out.on (hb31)
  have FA26_541 : Hid (OwnN (w31) w25.heap.size ga26 m ca26 R.ce) := FA26_521.out.on (hb31)
  clear FW_503 FC_504 FR_505 FG_506 FP3_507 FQ3_508 FE3_509 FS3_510 FA3_511 FP8_512 FQ8_513 FE8_514 FS8_515 FA8_516 FP26_517 FQ26_518 FE26_519 FS26_520 FA26_521 hb31
  go_wp2
  go_ret
  exact ⟨rfl, FW_523.out⟩
end Go.Proofs.Ytbacmkibilhkgaa.fnExactStepCpu
