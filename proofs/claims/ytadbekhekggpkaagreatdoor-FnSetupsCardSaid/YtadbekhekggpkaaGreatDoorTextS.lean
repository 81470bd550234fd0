/-
  SetupText of the specification.
-/
import Derived.Test.YtadbekhekggpkaaGreatDoorFaultS
import Derived.Test.YtadbekhekggpkaaGreatDoorTextM
namespace Go.Proofs.YtadbekhekggpkaaGreatDoor
open Go.RowKit Go.PlainAid
set_option linter.unusedVariables false

set_option maxRecDepth 100000 in
set_option maxHeartbeats 1000000 in
theorem textS_no (s : SH) (X : SX) (hno : ¬ RightX X) (w : World) (h : RdX w s X) (hs : SmX s X) (hwf : WfU X.U) :
    Calls Tryz.prog 29 #[SetV s] w fun e w' => e = .returned (.tuple #[.string ⟨#[]⟩, .bool false]) ∧ Below w.heap.size w w' := by
  obtain ⟨f, hf⟩ := fault_ex X
  have hf0 : (f != 0) = true := by simp; exact fun e => hno ((fault_right hf).1 e)
  have HX : Hid (RdX w s X ∧ SmX s X ∧ WfU X.U ∧ FaultX X f) := ⟨h, hs, hwf, hf⟩
  clear h hs hwf hf hno
  obtain ⟨q0, n0, c0, q1, n1, c1, q2, n2, c2, q3, n3, c3, q4, n4, c4⟩ := s
  have HB0 : Hid (Below w.heap.size w (w.alloc (.cells #[.slice q0 n0 c0, .slice q1 n1 c1, .slice q2 n2 c2, .slice q3 n3 c3, .slice q4 n4 c4] 30))) := (Below.refl _ _).alloc (Nat.le_refl _) _
  unfold SetV
  dsimp only
  go_enter Tryz.func29, Tryz.ntmps29
  go_wp2_with fail
  refine (faultS ⟨q0, n0, c0, q1, n1, c1, q2, n2, c2, q3, n3, c3, q4, n4, c4⟩ X f HX.out.2.2.2 _ (HX.out.1.keep HB0.out (Nat.le_refl _)) HX.out.2.1 HX.out.2.2.1).mono ?_
  rintro e w1 ⟨rfl, hb⟩
  have HB1 : Hid (Below w.heap.size w w1) := bel_on (Nat.le_refl _) HB0.out hb
  clear hb HB0
  go_wp2
  go_ret2
  exact ⟨rfl, HB1.out⟩

set_option maxRecDepth 100000 in
set_option maxHeartbeats 8000000 in
theorem textS_yes (s : SH) (X : SX) (hyes : RightX X) (w : World) (h : RdX w s X) (hs : SmX s X) (hwf : WfU X.U) :
    Calls Tryz.prog 29 #[SetV s] w fun e w' => e = .returned (.tuple #[.string (txt X), .bool true]) ∧ Below w.heap.size w w' := by
  obtain ⟨f, hf⟩ := fault_ex X
  have hf0 : f = 0 := (fault_right hf).2 hyes
  subst hf0
  have HN : Hid (NumX X) := hyes.num
  have HX : Hid (RdX w s X ∧ SmX s X ∧ WfU X.U ∧ FaultX X 0) := ⟨h, hs, hwf, hf⟩
  clear hs hwf hf hyes
  obtain ⟨q0, n0, c0, q1, n1, c1, q2, n2, c2, q3, n3, c3, q4, n4, c4⟩ := s
  obtain ⟨l0, r0, l1, r1, l2, r2, l3, r3, l4, r4⟩ := h
  dsimp only at l0 r0 l1 r1 l2 r2 l3 r3 l4 r4
  have HL0 : Hid (X.R.length = n0) := l0
  have HL1 : Hid (X.W.length = n1) := l1
  have HL2 : Hid (X.O.length = n2) := l2
  have HL3 : Hid (X.U.length = n3) := l3
  have HL4 : Hid (X.S.length = n4) := l4
  have HR0 : Hid (R.RdR w q0 _) := r0
  have HR1 : Hid (RdR w q1 _) := r1
  have HR2 : Hid (RdO w q2 _) := r2
  have HR3 : Hid (RdU w q3 _) := r3
  have HR4 : Hid (S.RdS w q4 _) := r4
  have n4' : n0 ≤ 4 := by rw [← l0]; exact HN.out.r.1
  clear l0 r0 l1 r1 l2 r2 l3 r3 l4 r4
  have HB0 : Hid (Below w.heap.size w (w.alloc (.cells #[.slice q0 n0 c0, .slice q1 n1 c1, .slice q2 n2 c2, .slice q3 n3 c3, .slice q4 n4 c4] 30))) := (Below.refl _ _).alloc (Nat.le_refl _) _
  have HP0 : Hid ((w.alloc (.cells #[.slice q0 n0 c0, .slice q1 n1 c1, .slice q2 n2 c2, .slice q3 n3 c3, .slice q4 n4 c4] 30)).heap[w.heap.size]? = some (.cells #[.slice q0 n0 c0, .slice q1 n1 c1, .slice q2 n2 c2, .slice q3 n3 c3, .slice q4 n4 c4] 30)) := heap_new w _
  unfold SetV
  dsimp only
  go_enter Tryz.func29, Tryz.ntmps29
  go_wp2_with fail
  refine (faultS ⟨q0, n0, c0, q1, n1, c1, q2, n2, c2, q3, n3, c3, q4, n4, c4⟩ X 0 HX.out.2.2.2 _ (HX.out.1.keep HB0.out (Nat.le_refl _)) HX.out.2.1 HX.out.2.2.1).mono ?_
  rintro e w1 ⟨rfl, hb⟩
  have HB1 : Hid (Below w.heap.size w w1) := bel_on (Nat.le_refl _) HB0.out hb
  have HP1 : Hid (w1.heap[w.heap.size]? = some (.cells #[.slice q0 n0 c0, .slice q1 n1 c1, .slice q2 n2 c2, .slice q3 n3 c3, .slice q4 n4 c4] 30)) := row_on HP0.out hb
  have kp1 := boxO_cells HP1.out
  clear hb HB0 HP0
  have f0 : (0 : Int) ≤ (n0 : Int) := by omega
  have f1 : (n0 : Int) ≤ 1000 := by omega
  have z0 := vX_size f0 f1
  go_wp2_with fail
  refine (varS (n0 : Int) f0 f1 _).mono ?_
  rintro e w2 ⟨rfl, hb⟩
  have HW : Hid (Below w.heap.size w w2) := bel_on (Nat.le_refl _) HB1.out hb
  have HP : Hid (w2.heap[w.heap.size]? = some (.cells #[.slice q0 n0 c0, .slice q1 n1 c1, .slice q2 n2 c2, .slice q3 n3 c3, .slice q4 n4 c4] 30)) := row_on HP1.out hb
  clear hb HB1 HP1 kp1
  go_wp2
  have HNE : Hid ((n0 : Int) = (X.R.length : Int)) := by have := HL0.out; show _ = _; omega
  have HT : Hid (vX (n0 : Int) = vX X.R.length) := by show _ = _; rw [HNE.out]
  clear f0 f1
  go_loopg [4, 5] n0 (fun gk v iv wr => ∃ (j : Nat) (t : ByteArray), j + gk = n0 ∧ v = .string t ∧ iv = .int .i64 j ∧ t.size ≤ 2000 + 3000 * j ∧ Hid (t = vX X.R.length ++ pT (X.R.take j)) ∧ Hid (Below w.heap.size w wr) ∧ Hid (wr.heap[w.heap.size]? = some (.cells #[.slice q0 n0 c0, .slice q1 n1 c1, .slice q2 n2 c2, .slice q3 n3 c3, .slice q4 n4 c4] 30)))
  case atStart => exact ⟨0, _, by omega, rfl, rfl, by first | omega | (rw [ba_size]; omega), by show _ = _; first | (rw [HT.out]; simp only [List.take_zero, pT, ba_nil]; done) | (simp only [List.take_zero, pT, ba_nil, HNE.out]; done) | (rw [HT.out]; simp only [List.take_zero, pT, ba_nil, HNE.out, tA, ba_assoc]; done), HW, HP⟩
  case round =>
    clear HW HP
    try clear HT
    try clear HNE
    try clear hlt
    obtain ⟨j, t, hj, rfl, rfl, ht, HT, HW, HP⟩ := hrel
    have kp := boxO_cells HP.out
    by_cases hlt : j < n0
    · have hjl : j < X.R.length := by have := HL0.out; omega
      have hj12 := HN.out.r.1
      have hln := HL0.out
      have ht2 : t.size ≤ 200000 := by omega
      have hjb : j ≤ 100 := by omega
      obtain ⟨g, off, ha, hc⟩ := HR0.out (by omega)
      have hgl : g < w.heap.size := World.block_lt_of_cell? w ⟨g, off + j * 2, none⟩ (hc j hjl).1
      subst ha
      have cc := hc j hjl
      have nn := HN.out.r.2 j hjl
      have HTK : Hid (pT (X.R.take (j + 1)) = pT (X.R.take j) ++ vX (X.R[j]).1 ++ vX (X.R[j]).2) := pT_take hjl
      have cf0 := (HW.out.cell (p := ⟨g, off + j * 2, none⟩) hgl).trans cc.1
      have cf1 := (HW.out.cell (p := ⟨g, off + j * 2 + 1, none⟩) hgl).trans cc.2
      obtain ⟨x0, e0⟩ : ∃ z, (X.R[j]).1 = z := ⟨_, rfl⟩
      obtain ⟨x1, e1⟩ : ∃ z, (X.R[j]).2 = z := ⟨_, rfl⟩
      rw [e0, e1] at nn
      rw [e0] at cf0
      rw [e1] at cf1
      have HTJ : Hid (pT (X.R.take (j + 1)) = pT (X.R.take j) ++ vX x0 ++ vX x1) := by have := HTK.out; rw [e0, e1] at this; exact this
      obtain ⟨⟨f0, g0⟩, ⟨f1, g1⟩⟩ := nn
      clear hc hjl cc HTK e0 e1
      have z0 := vX_size f0 g0
      have z1 := vX_size f1 g1
      have b0 : ¬9223372036854775807 < t.size + (vX x0).size := by omega
      have b1 : ¬9223372036854775807 < t.size + (vX x0).size + (vX x1).size := by omega
      have i0 : (0 : Int) ≤ (j : Int) := by omega
      have i1 : (j : Int) < (n0 : Int) := by omega
      have HC : Hid (wr.cell? ⟨w.heap.size, 0, none⟩ = some (.slice (some ⟨g, off, none⟩) n0 c0) ∧ wr.cell? ⟨g, off + j * 2, none⟩ = some (.int .i64 x0) ∧ wr.cell? ⟨g, off + j * 2 + 1, none⟩ = some (.int .i64 x1) ∧ Below w.heap.size w wr ∧ BlkAt wr w.heap.size (.cells #[.slice (some ⟨g, off, none⟩) n0 c0, .slice q1 n1 c1, .slice q2 n2 c2, .slice q3 n3 c3, .slice q4 n4 c4] 30)) := ⟨kp.1.1, cf0, cf1, HW.out, HP.out⟩
      clear HW HP cf0 cf1 hln hj12
      go_wp2
      clear kp
      go_region_held3 (fun w' => w'.cell? ⟨w.heap.size, 0, none⟩ = some (.slice (some ⟨g, off, none⟩) n0 c0) ∧ w'.cell? ⟨g, off + j * 2, none⟩ = some (.int .i64 x0) ∧ w'.cell? ⟨g, off + j * 2 + 1, none⟩ = some (.int .i64 x1) ∧ Below w.heap.size w w' ∧ BlkAt w' w.heap.size (.cells #[.slice (some ⟨g, off, none⟩) n0 c0, .slice q1 n1 c1, .slice q2 n2 c2, .slice q3 n3 c3, .slice q4 n4 c4] 30)) (first | (refine tkeep3 (by assumption) ?_; assumption) | (exact ⟨HC.out.1, HC.out.2.1, HC.out.2.2.1, HC.out.2.2.2.1.drew, HC.out.2.2.2.2⟩)) (first | (go_at_call_of 70 x0; refine (varS x0 f0 g0 _).mono ?_; rintro e u0 ⟨rfl, hb0⟩) | (go_at_call_of 70 x1; refine (varS x1 f1 g1 _).mono ?_; rintro e u1 ⟨rfl, hb1⟩))
      rename_i HH
      have HW2 : Hid (Below w.heap.size w _) := HH.2.2.2.1
      have HP2 : Hid (BlkAt _ w.heap.size (.cells #[.slice (some ⟨g, off, none⟩) n0 c0, .slice q1 n1 c1, .slice q2 n2 c2, .slice q3 n3 c3, .slice q4 n4 c4] 30)) := HH.2.2.2.2
      have HT' : Hid (t ++ vX x0 ++ vX x1 = vX X.R.length ++ pT (X.R.take (j + 1))) := by show _ = _; rw [HTJ.out, HT.out]; simp only [ba_assoc]
      clear HH hb0 hb1 HC HT HTJ b0 b1
      go_wp2
      go_roundg (gk - 1)
      case measure => omega
      case rel => exact ⟨j + 1, _, by omega, rfl, by go_num, by rw [ba_size, ba_size]; omega, HT', HW2, HP2⟩
    · have hj12 := HN.out.r.1
      have hln := HL0.out
      have HT2 : Hid (t = vX X.R.length ++ pT X.R) := by
        have h5 := HT.out
        rw [List.take_of_length_le (by omega)] at h5
        exact h5
      have ht2 : t.size ≤ 14000 := by omega
      clear HT ht hln hj12
      have hn1 := HN.out.w.1
      have hl1 := HL1.out
      have f0 : (0 : Int) ≤ (n1 : Int) := by omega
      have f1 : (n1 : Int) ≤ 1000 := by omega
      have z0 := vX_size f0 f1
      have b0 : ¬9223372036854775807 < t.size + (vX (n1 : Int)).size := by omega
      go_wp2_with fail
      refine (varS (n1 : Int) f0 f1 _).mono ?_
      rintro e w5 ⟨rfl, hb⟩
      have HWn : Hid (Below w.heap.size w w5) := bel_on (Nat.le_refl _) HW.out hb
      have HPn : Hid (w5.heap[w.heap.size]? = some (.cells #[.slice q0 n0 c0, .slice q1 n1 c1, .slice q2 n2 c2, .slice q3 n3 c3, .slice q4 n4 c4] 30)) := row_on HP.out hb
      clear hb HW HP kp
      have HW := HWn
      have HP := HPn
      clear HWn HPn
      go_wp2
      have HNE : Hid ((n1 : Int) = (X.W.length : Int)) := by show _ = _; omega
      have HT : Hid (t ++ vX (n1 : Int) = tA X ++ vX X.W.length) := by
        show _ = _
        rw [HT2.out, HNE.out]
        rfl
      clear HT2 b0 f0 f1 hn1 hl1
      go_loopg [4, 6] n1 (fun gk v iv wr => ∃ (j : Nat) (t : ByteArray), j + gk = n1 ∧ v = .string t ∧ iv = .int .i64 j ∧ t.size ≤ 20000 + 3000 * j ∧ Hid (t = tA X ++ vX X.W.length ++ pT (X.W.take j)) ∧ Hid (Below w.heap.size w wr) ∧ Hid (wr.heap[w.heap.size]? = some (.cells #[.slice q0 n0 c0, .slice q1 n1 c1, .slice q2 n2 c2, .slice q3 n3 c3, .slice q4 n4 c4] 30)))
      case atStart => exact ⟨0, _, by omega, rfl, rfl, by first | omega | (rw [ba_size]; omega), by show _ = _; first | (rw [HT.out]; simp only [List.take_zero, pT, ba_nil]; done) | (simp only [List.take_zero, pT, ba_nil, HNE.out]; done) | (rw [HT.out]; simp only [List.take_zero, pT, ba_nil, HNE.out, tA, ba_assoc]; done), HW, HP⟩
      case round =>
        clear HW HP
        try clear HT
        try clear HNE
        try clear hlt
        obtain ⟨j, t, hj, rfl, rfl, ht, HT, HW, HP⟩ := hrel
        have kp := boxO_cells HP.out
        by_cases hlt : j < n1
        · have hjl : j < X.W.length := by have := HL1.out; omega
          have hj12 := HN.out.w.1
          have hln := HL1.out
          have ht2 : t.size ≤ 200000 := by omega
          have hjb : j ≤ 100 := by omega
          obtain ⟨g, off, ha, hc⟩ := HR1.out (by omega)
          have hgl : g < w.heap.size := World.block_lt_of_cell? w ⟨g, off + j * 2, none⟩ (hc j hjl).1
          subst ha
          have cc := hc j hjl
          have nn := HN.out.w.2 j hjl
          have HTK : Hid (pT (X.W.take (j + 1)) = pT (X.W.take j) ++ vX (X.W[j]).1 ++ vX (X.W[j]).2) := pT_take hjl
          have cf0 := (HW.out.cell (p := ⟨g, off + j * 2, none⟩) hgl).trans cc.1
          have cf1 := (HW.out.cell (p := ⟨g, off + j * 2 + 1, none⟩) hgl).trans cc.2
          obtain ⟨x0, e0⟩ : ∃ z, (X.W[j]).1 = z := ⟨_, rfl⟩
          obtain ⟨x1, e1⟩ : ∃ z, (X.W[j]).2 = z := ⟨_, rfl⟩
          rw [e0, e1] at nn
          rw [e0] at cf0
          rw [e1] at cf1
          have HTJ : Hid (pT (X.W.take (j + 1)) = pT (X.W.take j) ++ vX x0 ++ vX x1) := by have := HTK.out; rw [e0, e1] at this; exact this
          obtain ⟨⟨f0, g0⟩, ⟨f1, g1⟩⟩ := nn
          clear hc hjl cc HTK e0 e1
          have z0 := vX_size f0 g0
          have z1 := vX_size f1 g1
          have b0 : ¬9223372036854775807 < t.size + (vX x0).size := by omega
          have b1 : ¬9223372036854775807 < t.size + (vX x0).size + (vX x1).size := by omega
          have i0 : (0 : Int) ≤ (j : Int) := by omega
          have i1 : (j : Int) < (n1 : Int) := by omega
          have HC : Hid (wr.cell? ⟨w.heap.size, 1, none⟩ = some (.slice (some ⟨g, off, none⟩) n1 c1) ∧ wr.cell? ⟨g, off + j * 2, none⟩ = some (.int .i64 x0) ∧ wr.cell? ⟨g, off + j * 2 + 1, none⟩ = some (.int .i64 x1) ∧ Below w.heap.size w wr ∧ BlkAt wr w.heap.size (.cells #[.slice q0 n0 c0, .slice (some ⟨g, off, none⟩) n1 c1, .slice q2 n2 c2, .slice q3 n3 c3, .slice q4 n4 c4] 30)) := ⟨kp.1.2.1, cf0, cf1, HW.out, HP.out⟩
          clear HW HP cf0 cf1 hln hj12
          go_wp2
          clear kp
          go_region_held3 (fun w' => w'.cell? ⟨w.heap.size, 1, none⟩ = some (.slice (some ⟨g, off, none⟩) n1 c1) ∧ w'.cell? ⟨g, off + j * 2, none⟩ = some (.int .i64 x0) ∧ w'.cell? ⟨g, off + j * 2 + 1, none⟩ = some (.int .i64 x1) ∧ Below w.heap.size w w' ∧ BlkAt w' w.heap.size (.cells #[.slice q0 n0 c0, .slice (some ⟨g, off, none⟩) n1 c1, .slice q2 n2 c2, .slice q3 n3 c3, .slice q4 n4 c4] 30)) (first | (refine tkeep3 (by assumption) ?_; assumption) | (exact ⟨HC.out.1, HC.out.2.1, HC.out.2.2.1, HC.out.2.2.2.1.drew, HC.out.2.2.2.2⟩)) (first | (go_at_call_of 70 x0; refine (varS x0 f0 g0 _).mono ?_; rintro e u0 ⟨rfl, hb0⟩) | (go_at_call_of 70 x1; refine (varS x1 f1 g1 _).mono ?_; rintro e u1 ⟨rfl, hb1⟩))
          rename_i HH
          have HW2 : Hid (Below w.heap.size w _) := HH.2.2.2.1
          have HP2 : Hid (BlkAt _ w.heap.size (.cells #[.slice q0 n0 c0, .slice (some ⟨g, off, none⟩) n1 c1, .slice q2 n2 c2, .slice q3 n3 c3, .slice q4 n4 c4] 30)) := HH.2.2.2.2
          have HT' : Hid (t ++ vX x0 ++ vX x1 = tA X ++ vX X.W.length ++ pT (X.W.take (j + 1))) := by show _ = _; rw [HTJ.out, HT.out]; simp only [ba_assoc]
          clear HH hb0 hb1 HC HT HTJ b0 b1
          go_wp2
          go_roundg (gk - 1)
          case measure => omega
          case rel => exact ⟨j + 1, _, by omega, rfl, by go_num, by rw [ba_size, ba_size]; omega, HT', HW2, HP2⟩
        · have hj12 := HN.out.w.1
          have hln := HL1.out
          have HT2 : Hid (t = tA X ++ vX X.W.length ++ pT X.W) := by
            have h5 := HT.out
            rw [List.take_of_length_le (by omega)] at h5
            exact h5
          have ht2 : t.size ≤ 56000 := by omega
          clear HT ht hln hj12
          have hn1 := HN.out.o.1
          have hl1 := HL2.out
          have f0 : (0 : Int) ≤ (n2 : Int) := by omega
          have f1 : (n2 : Int) ≤ 1000 := by omega
          have z0 := vX_size f0 f1
          have b0 : ¬9223372036854775807 < t.size + (vX (n2 : Int)).size := by omega
          go_wp2_with fail
          refine (varS (n2 : Int) f0 f1 _).mono ?_
          rintro e w5 ⟨rfl, hb⟩
          have HWn : Hid (Below w.heap.size w w5) := bel_on (Nat.le_refl _) HW.out hb
          have HPn : Hid (w5.heap[w.heap.size]? = some (.cells #[.slice q0 n0 c0, .slice q1 n1 c1, .slice q2 n2 c2, .slice q3 n3 c3, .slice q4 n4 c4] 30)) := row_on HP.out hb
          clear hb HW HP kp
          have HW := HWn
          have HP := HPn
          clear HWn HPn
          go_wp2
          have HNE : Hid ((n2 : Int) = (X.O.length : Int)) := by show _ = _; omega
          have HT : Hid (t ++ vX (n2 : Int) = tB X ++ vX X.O.length) := by
            show _ = _
            rw [HT2.out, HNE.out]
            rfl
          clear HT2 b0 f0 f1 hn1 hl1
          go_loopg [4, 7] n2 (fun gk v iv wr => ∃ (j : Nat) (t : ByteArray), j + gk = n2 ∧ v = .string t ∧ iv = .int .i64 j ∧ t.size ≤ 60000 + 6000 * j ∧ Hid (t = tB X ++ vX X.O.length ++ oT (X.O.take j)) ∧ Hid (Below w.heap.size w wr) ∧ Hid (wr.heap[w.heap.size]? = some (.cells #[.slice q0 n0 c0, .slice q1 n1 c1, .slice q2 n2 c2, .slice q3 n3 c3, .slice q4 n4 c4] 30)))
          case atStart => exact ⟨0, _, by omega, rfl, rfl, by first | omega | (rw [ba_size]; omega), by show _ = _; first | (rw [HT.out]; simp only [List.take_zero, oT, ba_nil]; done) | (simp only [List.take_zero, oT, ba_nil, HNE.out]; done) | (rw [HT.out]; simp only [List.take_zero, oT, ba_nil, HNE.out, tB, ba_assoc]; done), HW, HP⟩
          case round =>
            clear HW HP
            try clear HT
            try clear HNE
            try clear hlt
            obtain ⟨j, t, hj, rfl, rfl, ht, HT, HW, HP⟩ := hrel
            have kp := boxO_cells HP.out
            by_cases hlt : j < n2
            · have hjl : j < X.O.length := by have := HL2.out; omega
              have hj12 := HN.out.o.1
              have hln := HL2.out
              have ht2 : t.size ≤ 200000 := by omega
              have hjb : j ≤ 100 := by omega
              obtain ⟨g, off, ha, hc⟩ := HR2.out (by omega)
              have hgl : g < w.heap.size := World.block_lt_of_cell? w ⟨g, off + j * 5, none⟩ (hc j hjl).1
              subst ha
              have cc := hc j hjl
              have nn := HN.out.o.2 j hjl
              have HTK : Hid (oT (X.O.take (j + 1)) = oT (X.O.take j) ++ vX (X.O[j]).1 ++ vX (X.O[j]).2.1 ++ vX (X.O[j]).2.2.1 ++ vX (X.O[j]).2.2.2.1 ++ vX (X.O[j]).2.2.2.2) := oT_take hjl
              have cf0 := (HW.out.cell (p := ⟨g, off + j * 5, none⟩) hgl).trans cc.1
              have cf1 := (HW.out.cell (p := ⟨g, off + j * 5 + 1, none⟩) hgl).trans cc.2.1
              have cf2 := (HW.out.cell (p := ⟨g, off + j * 5 + 2, none⟩) hgl).trans cc.2.2.1
              have cf3 := (HW.out.cell (p := ⟨g, off + j * 5 + 3, none⟩) hgl).trans cc.2.2.2.1
              have cf4 := (HW.out.cell (p := ⟨g, off + j * 5 + 4, none⟩) hgl).trans cc.2.2.2.2
              obtain ⟨x0, e0⟩ : ∃ z, (X.O[j]).1 = z := ⟨_, rfl⟩
              obtain ⟨x1, e1⟩ : ∃ z, (X.O[j]).2.1 = z := ⟨_, rfl⟩
              obtain ⟨x2, e2⟩ : ∃ z, (X.O[j]).2.2.1 = z := ⟨_, rfl⟩
              obtain ⟨x3, e3⟩ : ∃ z, (X.O[j]).2.2.2.1 = z := ⟨_, rfl⟩
              obtain ⟨x4, e4⟩ : ∃ z, (X.O[j]).2.2.2.2 = z := ⟨_, rfl⟩
              rw [e0, e1, e2, e3, e4] at nn
              rw [e0] at cf0
              rw [e1] at cf1
              rw [e2] at cf2
              rw [e3] at cf3
              rw [e4] at cf4
              have HTJ : Hid (oT (X.O.take (j + 1)) = oT (X.O.take j) ++ vX x0 ++ vX x1 ++ vX x2 ++ vX x3 ++ vX x4) := by have := HTK.out; rw [e0, e1, e2, e3, e4] at this; exact this
              obtain ⟨⟨f0, g0⟩, ⟨f1, g1⟩, ⟨f2, g2⟩, ⟨f3, g3⟩, ⟨f4, g4⟩⟩ := nn
              clear hc hjl cc HTK e0 e1 e2 e3 e4
              have z0 := vX_size f0 g0
              have z1 := vX_size f1 g1
              have z2 := vX_size f2 g2
              have z3 := vX_size f3 g3
              have z4 := vX_size f4 g4
              have b0 : ¬9223372036854775807 < t.size + (vX x0).size := by omega
              have b1 : ¬9223372036854775807 < t.size + (vX x0).size + (vX x1).size := by omega
              have b2 : ¬9223372036854775807 < t.size + (vX x0).size + (vX x1).size + (vX x2).size := by omega
              have b3 : ¬9223372036854775807 < t.size + (vX x0).size + (vX x1).size + (vX x2).size + (vX x3).size := by omega
              have b4 : ¬9223372036854775807 < t.size + (vX x0).size + (vX x1).size + (vX x2).size + (vX x3).size + (vX x4).size := by omega
              have i0 : (0 : Int) ≤ (j : Int) := by omega
              have i1 : (j : Int) < (n2 : Int) := by omega
              have hal : Below wr.heap.size wr (wr.alloc (.cells #[.int .i64 x0, .int .i64 x1, .int .i64 x2, .int .i64 x3, .int .i64 x4] 52)) := (Below.refl _ _).alloc (Nat.le_refl _) _
              have HC : Hid ((wr.alloc (.cells #[.int .i64 x0, .int .i64 x1, .int .i64 x2, .int .i64 x3, .int .i64 x4] 52)).cell? ⟨wr.heap.size, 0, none⟩ = some (.int .i64 x0) ∧ (wr.alloc (.cells #[.int .i64 x0, .int .i64 x1, .int .i64 x2, .int .i64 x3, .int .i64 x4] 52)).cell? ⟨wr.heap.size, 1, none⟩ = some (.int .i64 x1) ∧ (wr.alloc (.cells #[.int .i64 x0, .int .i64 x1, .int .i64 x2, .int .i64 x3, .int .i64 x4] 52)).cell? ⟨wr.heap.size, 2, none⟩ = some (.int .i64 x2) ∧ (wr.alloc (.cells #[.int .i64 x0, .int .i64 x1, .int .i64 x2, .int .i64 x3, .int .i64 x4] 52)).cell? ⟨wr.heap.size, 3, none⟩ = some (.int .i64 x3) ∧ (wr.alloc (.cells #[.int .i64 x0, .int .i64 x1, .int .i64 x2, .int .i64 x3, .int .i64 x4] 52)).cell? ⟨wr.heap.size, 4, none⟩ = some (.int .i64 x4) ∧ Below w.heap.size w (wr.alloc (.cells #[.int .i64 x0, .int .i64 x1, .int .i64 x2, .int .i64 x3, .int .i64 x4] 52)) ∧ BlkAt (wr.alloc (.cells #[.int .i64 x0, .int .i64 x1, .int .i64 x2, .int .i64 x3, .int .i64 x4] 52)) w.heap.size (.cells #[.slice q0 n0 c0, .slice q1 n1 c1, .slice (some ⟨g, off, none⟩) n2 c2, .slice q3 n3 c3, .slice q4 n4 c4] 30)) := by
                have hx := boxO_cells (heap_new wr (.cells #[.int .i64 x0, .int .i64 x1, .int .i64 x2, .int .i64 x3, .int .i64 x4] 52))
                exact ⟨hx.1.1, hx.1.2.1, hx.1.2.2.1, hx.1.2.2.2.1, hx.1.2.2.2.2, bel_on (Nat.le_refl _) HW.out hal, row_on HP.out hal⟩
              clear HW HP hal hln hj12
              go_wp2
              clear kp cf0 cf1 cf2 cf3 cf4
              go_region_held3 (fun w' => w'.cell? ⟨wr.heap.size, 0, none⟩ = some (.int .i64 x0) ∧ w'.cell? ⟨wr.heap.size, 1, none⟩ = some (.int .i64 x1) ∧ w'.cell? ⟨wr.heap.size, 2, none⟩ = some (.int .i64 x2) ∧ w'.cell? ⟨wr.heap.size, 3, none⟩ = some (.int .i64 x3) ∧ w'.cell? ⟨wr.heap.size, 4, none⟩ = some (.int .i64 x4) ∧ Below w.heap.size w w' ∧ BlkAt w' w.heap.size (.cells #[.slice q0 n0 c0, .slice q1 n1 c1, .slice (some ⟨g, off, none⟩) n2 c2, .slice q3 n3 c3, .slice q4 n4 c4] 30)) (first | (refine tkeep5 (by assumption) ?_; assumption) | (exact ⟨HC.out.1, HC.out.2.1, HC.out.2.2.1, HC.out.2.2.2.1, HC.out.2.2.2.2.1, HC.out.2.2.2.2.2.1.drew, HC.out.2.2.2.2.2.2⟩)) (first | (go_at_call_of 70 x0; refine (varS x0 f0 g0 _).mono ?_; rintro e u0 ⟨rfl, hb0⟩) | (go_at_call_of 70 x1; refine (varS x1 f1 g1 _).mono ?_; rintro e u1 ⟨rfl, hb1⟩) | (go_at_call_of 70 x2; refine (varS x2 f2 g2 _).mono ?_; rintro e u2 ⟨rfl, hb2⟩) | (go_at_call_of 70 x3; refine (varS x3 f3 g3 _).mono ?_; rintro e u3 ⟨rfl, hb3⟩) | (go_at_call_of 70 x4; refine (varS x4 f4 g4 _).mono ?_; rintro e u4 ⟨rfl, hb4⟩))
              rename_i HH
              have HW2 : Hid (Below w.heap.size w _) := HH.2.2.2.2.2.1
              have HP2 : Hid (BlkAt _ w.heap.size (.cells #[.slice q0 n0 c0, .slice q1 n1 c1, .slice (some ⟨g, off, none⟩) n2 c2, .slice q3 n3 c3, .slice q4 n4 c4] 30)) := HH.2.2.2.2.2.2
              have HT' : Hid (t ++ vX x0 ++ vX x1 ++ vX x2 ++ vX x3 ++ vX x4 = tB X ++ vX X.O.length ++ oT (X.O.take (j + 1))) := by show _ = _; rw [HTJ.out, HT.out]; simp only [ba_assoc]
              clear HH hb0 hb1 hb2 hb3 hb4 HC HT HTJ b0 b1 b2 b3 b4
              go_wp2
              go_roundg (gk - 1)
              case measure => omega
              case rel => exact ⟨j + 1, _, by omega, rfl, by go_num, by rw [ba_size, ba_size, ba_size, ba_size, ba_size]; omega, HT', HW2, HP2⟩
            · have hj12 := HN.out.o.1
              have hln := HL2.out
              have HT2 : Hid (t = tB X ++ vX X.O.length ++ oT X.O) := by
                have h5 := HT.out
                rw [List.take_of_length_le (by omega)] at h5
                exact h5
              have ht2 : t.size ≤ 96000 := by omega
              clear HT ht hln hj12
              have hn1 := HN.out.u.1
              have hl1 := HL3.out
              have f0 : (0 : Int) ≤ (n3 : Int) := by omega
              have f1 : (n3 : Int) ≤ 1000 := by omega
              have z0 := vX_size f0 f1
              have b0 : ¬9223372036854775807 < t.size + (vX (n3 : Int)).size := by omega
              go_wp2_with fail
              refine (varS (n3 : Int) f0 f1 _).mono ?_
              rintro e w5 ⟨rfl, hb⟩
              have HWn : Hid (Below w.heap.size w w5) := bel_on (Nat.le_refl _) HW.out hb
              have HPn : Hid (w5.heap[w.heap.size]? = some (.cells #[.slice q0 n0 c0, .slice q1 n1 c1, .slice q2 n2 c2, .slice q3 n3 c3, .slice q4 n4 c4] 30)) := row_on HP.out hb
              clear hb HW HP kp
              have HW := HWn
              have HP := HPn
              clear HWn HPn
              go_wp2
              have HNE : Hid ((n3 : Int) = (X.U.length : Int)) := by show _ = _; omega
              have HT : Hid (t ++ vX (n3 : Int) = tC X ++ vX X.U.length) := by
                show _ = _
                rw [HT2.out, HNE.out]
                rfl
              clear HT2 b0 f0 f1 hn1 hl1
              go_loopg [4, 9] n3 (fun gk v iv wr => ∃ (j : Nat) (t : ByteArray), j + gk = n3 ∧ v = .string t ∧ iv = .int .i64 j ∧ t.size ≤ 100000 + 4000 * j ∧ Hid (t = tC X ++ vX X.U.length ++ uT (X.U.take j)) ∧ Hid (Below w.heap.size w wr) ∧ Hid (wr.heap[w.heap.size]? = some (.cells #[.slice q0 n0 c0, .slice q1 n1 c1, .slice q2 n2 c2, .slice q3 n3 c3, .slice q4 n4 c4] 30)))
              case atStart => exact ⟨0, _, by omega, rfl, rfl, by first | omega | (rw [ba_size]; omega), by show _ = _; first | (rw [HT.out]; simp only [List.take_zero, uT, ba_nil]; done) | (simp only [List.take_zero, uT, ba_nil, HNE.out]; done) | (rw [HT.out]; simp only [List.take_zero, uT, ba_nil, HNE.out, tC, ba_assoc]; done), HW, HP⟩
              case round =>
                clear HW HP
                try clear HT
                try clear HNE
                try clear hlt
                obtain ⟨j, t, hj, rfl, rfl, ht, HT, HW, HP⟩ := hrel
                have kp := boxO_cells HP.out
                by_cases hlt : j < n3
                · have hjl : j < X.U.length := by have := HL3.out; omega
                  have hj12 := HN.out.u.1
                  have hln := HL3.out
                  have ht2 : t.size ≤ 200000 := by omega
                  have hjb : j ≤ 100 := by omega
                  obtain ⟨g, off, ha, hc⟩ := HR3.out (by omega)
                  have hgl : g < w.heap.size := World.block_lt_of_cell? w ⟨g, off + j * 3, none⟩ (hc j hjl).1
                  subst ha
                  have cc := hc j hjl
                  have nn := HN.out.u.2 j hjl
                  have HTK : Hid (uT (X.U.take (j + 1)) = uT (X.U.take j) ++ vX (X.U[j]).1 ++ vX (X.U[j]).2.1 ++ vX (X.U[j]).2.2) := uT_take hjl
                  have cf0 := (HW.out.cell (p := ⟨g, off + j * 3, none⟩) hgl).trans cc.1
                  have cf1 := (HW.out.cell (p := ⟨g, off + j * 3 + 1, none⟩) hgl).trans cc.2.1
                  have cf2 := (HW.out.cell (p := ⟨g, off + j * 3 + 2, none⟩) hgl).trans cc.2.2
                  obtain ⟨x0, e0⟩ : ∃ z, (X.U[j]).1 = z := ⟨_, rfl⟩
                  obtain ⟨x1, e1⟩ : ∃ z, (X.U[j]).2.1 = z := ⟨_, rfl⟩
                  obtain ⟨x2, e2⟩ : ∃ z, (X.U[j]).2.2 = z := ⟨_, rfl⟩
                  rw [e0, e1, e2] at nn
                  rw [e0] at cf0
                  rw [e1] at cf1
                  rw [e2] at cf2
                  have HTJ : Hid (uT (X.U.take (j + 1)) = uT (X.U.take j) ++ vX x0 ++ vX x1 ++ vX x2) := by have := HTK.out; rw [e0, e1, e2] at this; exact this
                  obtain ⟨⟨f0, g0⟩, ⟨f1, g1⟩, ⟨f2, g2⟩⟩ := nn
                  clear hc hjl cc HTK e0 e1 e2
                  have z0 := vX_size f0 g0
                  have z1 := vX_size f1 g1
                  have z2 := vX_size f2 g2
                  have b0 : ¬9223372036854775807 < t.size + (vX x0).size := by omega
                  have b1 : ¬9223372036854775807 < t.size + (vX x0).size + (vX x1).size := by omega
                  have b2 : ¬9223372036854775807 < t.size + (vX x0).size + (vX x1).size + (vX x2).size := by omega
                  have i0 : (0 : Int) ≤ (j : Int) := by omega
                  have i1 : (j : Int) < (n3 : Int) := by omega
                  have HC : Hid (wr.cell? ⟨w.heap.size, 3, none⟩ = some (.slice (some ⟨g, off, none⟩) n3 c3) ∧ wr.cell? ⟨g, off + j * 3, none⟩ = some (.int .i64 x0) ∧ wr.cell? ⟨g, off + j * 3 + 1, none⟩ = some (.int .i64 x1) ∧ wr.cell? ⟨g, off + j * 3 + 2, none⟩ = some (.int .i64 x2) ∧ Below w.heap.size w wr ∧ BlkAt wr w.heap.size (.cells #[.slice q0 n0 c0, .slice q1 n1 c1, .slice q2 n2 c2, .slice (some ⟨g, off, none⟩) n3 c3, .slice q4 n4 c4] 30)) := ⟨kp.1.2.2.2.1, cf0, cf1, cf2, HW.out, HP.out⟩
                  clear HW HP cf0 cf1 cf2 hln hj12
                  go_wp2
                  clear kp
                  go_region_held3 (fun w' => w'.cell? ⟨w.heap.size, 3, none⟩ = some (.slice (some ⟨g, off, none⟩) n3 c3) ∧ w'.cell? ⟨g, off + j * 3, none⟩ = some (.int .i64 x0) ∧ w'.cell? ⟨g, off + j * 3 + 1, none⟩ = some (.int .i64 x1) ∧ w'.cell? ⟨g, off + j * 3 + 2, none⟩ = some (.int .i64 x2) ∧ Below w.heap.size w w' ∧ BlkAt w' w.heap.size (.cells #[.slice q0 n0 c0, .slice q1 n1 c1, .slice q2 n2 c2, .slice (some ⟨g, off, none⟩) n3 c3, .slice q4 n4 c4] 30)) (first | (refine tkeep4 (by assumption) ?_; assumption) | (exact ⟨HC.out.1, HC.out.2.1, HC.out.2.2.1, HC.out.2.2.2.1, HC.out.2.2.2.2.1.drew, HC.out.2.2.2.2.2⟩)) (first | (go_at_call_of 70 x0; refine (varS x0 f0 g0 _).mono ?_; rintro e u0 ⟨rfl, hb0⟩) | (go_at_call_of 70 x1; refine (varS x1 f1 g1 _).mono ?_; rintro e u1 ⟨rfl, hb1⟩) | (go_at_call_of 70 x2; refine (varS x2 f2 g2 _).mono ?_; rintro e u2 ⟨rfl, hb2⟩))
                  rename_i HH
                  have HW2 : Hid (Below w.heap.size w _) := HH.2.2.2.2.1
                  have HP2 : Hid (BlkAt _ w.heap.size (.cells #[.slice q0 n0 c0, .slice q1 n1 c1, .slice q2 n2 c2, .slice (some ⟨g, off, none⟩) n3 c3, .slice q4 n4 c4] 30)) := HH.2.2.2.2.2
                  have HT' : Hid (t ++ vX x0 ++ vX x1 ++ vX x2 = tC X ++ vX X.U.length ++ uT (X.U.take (j + 1))) := by show _ = _; rw [HTJ.out, HT.out]; simp only [ba_assoc]
                  clear HH hb0 hb1 hb2 HC HT HTJ b0 b1 b2
                  go_wp2
                  go_roundg (gk - 1)
                  case measure => omega
                  case rel => exact ⟨j + 1, _, by omega, rfl, by go_num, by rw [ba_size, ba_size, ba_size]; omega, HT', HW2, HP2⟩
                · have hj12 := HN.out.u.1
                  have hln := HL3.out
                  have HT2 : Hid (t = tC X ++ vX X.U.length ++ uT X.U) := by
                    have h5 := HT.out
                    rw [List.take_of_length_le (by omega)] at h5
                    exact h5
                  have ht2 : t.size ≤ 132000 := by omega
                  clear HT ht hln hj12
                  go_wp2
                  clear kp
                  have HT : Hid (t = tD X) := by show _ = _; rw [HT2.out]; rfl
                  have HNE := HT
                  clear HT2
                  go_loopg [4, 10] n4 (fun gk v iv wr => ∃ (j : Nat) (t : ByteArray), j + gk = n4 ∧ v = .string t ∧ iv = .int .i64 j ∧ t.size ≤ 140000 + 2000 * j ∧ Hid (t = tD X ++ sT (X.S.take j)) ∧ Hid (Below w.heap.size w wr) ∧ Hid (wr.heap[w.heap.size]? = some (.cells #[.slice q0 n0 c0, .slice q1 n1 c1, .slice q2 n2 c2, .slice q3 n3 c3, .slice q4 n4 c4] 30)))
                  case atStart => exact ⟨0, _, by omega, rfl, rfl, by first | omega | (rw [ba_size]; omega), by show _ = _; first | (rw [HT.out]; simp only [List.take_zero, sT, ba_nil]; done) | (simp only [List.take_zero, sT, ba_nil, HNE.out]; done) | (rw [HT.out]; simp only [List.take_zero, sT, ba_nil, HNE.out, tD, ba_assoc]; done), HW, HP⟩
                  case round =>
                    clear HW HP
                    try clear HT
                    try clear HNE
                    try clear hlt
                    obtain ⟨j, t, hj, rfl, rfl, ht, HT, HW, HP⟩ := hrel
                    have kp := boxO_cells HP.out
                    by_cases hlt : j < n4
                    · have hjl : j < X.S.length := by have := HL4.out; omega
                      have hj12 := HN.out.s.1
                      have hln := HL4.out
                      have ht2 : t.size ≤ 200000 := by omega
                      have hjb : j ≤ 100 := by omega
                      obtain ⟨g, off, ha, hc⟩ := HR4.out (by omega)
                      have hgl : g < w.heap.size := World.block_lt_of_cell? w ⟨g, off + j, none⟩ (hc j hjl)
                      subst ha
                      have cf0 := (HW.out.cell (p := ⟨g, off + j, none⟩) hgl).trans (hc j hjl)
                      have hsz := HN.out.s.2 j hjl
                      have HTK : Hid (sT (X.S.take (j + 1)) = sT (X.S.take j) ++ vX (X.S[j]).size ++ X.S[j]) := sT_take hjl
                      obtain ⟨x0, e0⟩ : ∃ z, X.S[j] = z := ⟨_, rfl⟩
                      rw [e0] at cf0 hsz
                      have HTJ : Hid (sT (X.S.take (j + 1)) = sT (X.S.take j) ++ vX x0.size ++ x0) := by have := HTK.out; rw [e0] at this; exact this
                      clear hc hjl e0 HTK
                      have z0 := vX_size (n := (x0.size : Int)) (by omega) (by omega)
                      have b1 : ¬9223372036854775807 < t.size + (vX (x0.size : Int)).size := by omega
                      have b2 : ¬9223372036854775807 < t.size + (vX (x0.size : Int)).size + x0.size := by omega
                      have f0 : (0 : Int) ≤ (x0.size : Int) := by omega
                      have f1 : (x0.size : Int) ≤ 1000 := by omega
                      have i0 : (0 : Int) ≤ (j : Int) := by omega
                      have i1 : (j : Int) < (n4 : Int) := by omega
                      have HC : Hid (wr.cell? ⟨w.heap.size, 4, none⟩ = some (.slice (some ⟨g, off, none⟩) n4 c4) ∧ wr.cell? ⟨g, off + j, none⟩ = some (.string x0) ∧ Below w.heap.size w wr ∧ BlkAt wr w.heap.size (.cells #[.slice q0 n0 c0, .slice q1 n1 c1, .slice q2 n2 c2, .slice q3 n3 c3, .slice (some ⟨g, off, none⟩) n4 c4] 30)) := ⟨kp.1.2.2.2.2, cf0, HW.out, HP.out⟩
                      clear HW HP cf0 hln hj12
                      go_wp2
                      clear kp
                      go_region_held3 (fun w' => w'.cell? ⟨w.heap.size, 4, none⟩ = some (.slice (some ⟨g, off, none⟩) n4 c4) ∧ w'.cell? ⟨g, off + j, none⟩ = some (.string x0) ∧ Below w.heap.size w w' ∧ BlkAt w' w.heap.size (.cells #[.slice q0 n0 c0, .slice q1 n1 c1, .slice q2 n2 c2, .slice q3 n3 c3, .slice (some ⟨g, off, none⟩) n4 c4] 30)) (first | (refine tkeep2 (by assumption) ?_; assumption) | (exact ⟨HC.out.1, HC.out.2.1, HC.out.2.2.1.drew, HC.out.2.2.2⟩)) (first | (go_at_call 70; refine (varS (x0.size : Int) f0 f1 _).mono ?_; rintro e w2 ⟨rfl, hb2⟩))
                      rename_i HH
                      have HW2 : Hid (Below w.heap.size w _) := HH.2.2.1
                      have HP2 : Hid (BlkAt _ w.heap.size (.cells #[.slice q0 n0 c0, .slice q1 n1 c1, .slice q2 n2 c2, .slice q3 n3 c3, .slice (some ⟨g, off, none⟩) n4 c4] 30)) := HH.2.2.2
                      have HT' : Hid (t ++ vX (x0.size : Int) ++ x0 = tD X ++ sT (X.S.take (j + 1))) := by show _ = _; rw [HTJ.out, HT.out]; simp only [ba_assoc]
                      clear HH hb2 HC HT HTJ b1 b2 f0 f1
                      go_wp2
                      go_roundg (gk - 1)
                      case measure => omega
                      case rel => exact ⟨j + 1, _, by omega, rfl, by go_num, by rw [ba_size, ba_size]; omega, HT', HW2, HP2⟩
                    · have hj12 := HN.out.s.1
                      have hln := HL4.out
                      have HT2 : Hid (t = tD X ++ sT X.S) := by
                        have h5 := HT.out
                        rw [List.take_of_length_le (by omega)] at h5
                        exact h5
                      have ht2 : t.size ≤ 148000 := by omega
                      clear HT ht hln hj12
                      go_wp2
                      go_ret2
                      exact ⟨by rw [HT2.out]; rfl, HW.out⟩

/-- what SetupText answers -/
def TextX (X : SX) (t : ByteArray) (b : Bool) : Prop := (RightX X ∧ t = txt X ∧ b = true) ∨ (¬ RightX X ∧ t = ⟨#[]⟩ ∧ b = false)
theorem text_ex (X : SX) : ∃ t b, TextX X t b := by
  by_cases h : RightX X
  · exact ⟨_, _, .inl ⟨h, rfl, rfl⟩⟩
  · exact ⟨_, _, .inr ⟨h, rfl, rfl⟩⟩
theorem textS (s : SH) (X : SX) (t : ByteArray) (b : Bool) (ht : TextX X t b) (w : World) (h : RdX w s X) (hs : SmX s X) (hwf : WfU X.U) :
    Calls Tryz.prog 29 #[SetV s] w fun e w' => e = .returned (.tuple #[.string t, .bool b]) ∧ Below w.heap.size w w' := by
  rcases ht with ⟨h1, rfl, rfl⟩ | ⟨h1, rfl, rfl⟩
  · exact textS_yes s X h1 w h hs hwf
  · exact textS_no s X h1 w h hs hwf
end Go.Proofs.YtadbekhekggpkaaGreatDoor
