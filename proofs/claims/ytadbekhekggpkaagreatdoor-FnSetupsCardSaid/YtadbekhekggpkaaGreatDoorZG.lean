/-
  SetupText of the program.
-/
import Derived.Test.YtadbekhekggpkaaGreatDoorZF
import Derived.Test.YtadbekhekggpkaaGreatDoorZC
import Derived.Test.YtadbekhekggpkaaGreatDoorTextS
import Derived.Test.YtadbekhekggpkaaGreatDoorZI
import Derived.Defers
import Derived.Recover
namespace Go.Proofs.YtadbekhekggpkaaGreatDoor
open Go.RowKit Go.PlainAid
set_option linter.unusedVariables false

theorem WrX.lt {W : World} {k : Nat} {t : ByteArray} (h : WrX W k t) : k < W.heap.size := by
  obtain ⟨v, hk, _⟩ := h
  exact row_lt hk
theorem all1 {a : Int} (h : 0 ≤ a ∧ a ≤ 1000) : ∀ j (hj : j < [a].length), 0 ≤ [a][j] ∧ [a][j] ≤ 1000
  | 0, _ => h
theorem all2 {a b : Int} (h : 0 ≤ a ∧ a ≤ 1000) (h' : 0 ≤ b ∧ b ≤ 1000) : ∀ j (hj : j < [a, b].length), 0 ≤ [a, b][j] ∧ [a, b][j] ≤ 1000
  | 0, _ => h
  | 1, _ => h'
theorem all3 {a b c : Int} (h : 0 ≤ a ∧ a ≤ 1000) (h' : 0 ≤ b ∧ b ≤ 1000) (h2 : 0 ≤ c ∧ c ≤ 1000) : ∀ j (hj : j < [a, b, c].length), 0 ≤ [a, b, c][j] ∧ [a, b, c][j] ≤ 1000
  | 0, _ => h
  | 1, _ => h'
  | 2, _ => h2
theorem all5 {a b c d e : Int} (h : 0 ≤ a ∧ a ≤ 1000) (h' : 0 ≤ b ∧ b ≤ 1000) (h2 : 0 ≤ c ∧ c ≤ 1000) (h3 : 0 ≤ d ∧ d ≤ 1000) (h4 : 0 ≤ e ∧ e ≤ 1000) : ∀ j (hj : j < [a, b, c, d, e].length), 0 ≤ [a, b, c, d, e][j] ∧ [a, b, c, d, e][j] ≤ 1000
  | 0, _ => h
  | 1, _ => h'
  | 2, _ => h2
  | 3, _ => h3
  | 4, _ => h4
theorem vX_pos (n : Int) : 0 < (vX n).size := by
  show 0 < (Plain.vt n.toNat).toArray.size
  rw [List.size_toArray]
  exact Plain.vt_pos _
theorem txt_pos (X : SX) : 0 < (txt X).size := by
  have := vX_pos X.R.length
  unfold txt tD tC tB tA
  simp only [ba_size]
  omega
theorem own_text {wr : World} {B : Nat} {v : Value} {t : ByteArray} (h0 : 0 < t.size) (h : wr.ownsRow B 5 1 v t.size (txV t)) :
    ∃ g cap, v = .slice (some ⟨g, 0, none⟩) t.size cap ∧ (convert 22 9 v).run Tryz.prog wr = .ok (.string t) wr := by
  have hl : t.data.toList.length = t.size := Array.length_toList
  have h' : wr.ownsRow B 5 1 v t.data.toList.length (V.bytesV t.data.toList) := by rw [hl]; exact h
  obtain ⟨g, cap, hv, hc⟩ := V.own_string h' (by omega)
  rw [hl] at hv
  exact ⟨g, cap, hv, hc⟩

set_option maxRecDepth 100000 in
set_option maxHeartbeats 1000000 in
theorem textI_no (s : SH) (X : SX) (hno : ¬ RightX X) (w : World) (h : RdX w s X) (hs : SmX s X) (hwf : WfU X.U) (hk : s.n0 ≤ s.c0) (hg : Hnd w) :
    Calls Tryz.prog 7 #[SetV s] w fun e w' => e = .returned (.tuple #[.string ⟨#[]⟩, .bool false]) ∧ Below w.heap.size w w' := by
  obtain ⟨f, hf⟩ := fault_ex X
  have hf0 : (f != 0) = true := by simp; exact fun e => hno ((fault_right hf).1 e)
  have HX : Hid (RdX w s X ∧ SmX s X ∧ WfU X.U ∧ FaultX X f ∧ s.n0 ≤ s.c0 ∧ Hnd w) := ⟨h, hs, hwf, hf, hk, hg⟩
  clear h hs hwf hf hno hk hg
  obtain ⟨q0, n0, c0, q1, n1, c1, q2, n2, c2, q3, n3, c3, q4, n4, c4⟩ := s
  have HB0 : Hid (Below w.heap.size w (w.alloc (.cells #[.slice q0 n0 c0, .slice q1 n1 c1, .slice q2 n2 c2, .slice q3 n3 c3, .slice q4 n4 c4] 30))) := (Below.refl _ _).alloc (Nat.le_refl _) _
  unfold SetV
  dsimp only
  go_enter Tryz.func7, Tryz.ntmps7
  go_wp2_with fail
  refine (faultI ⟨q0, n0, c0, q1, n1, c1, q2, n2, c2, q3, n3, c3, q4, n4, c4⟩ X f HX.out.2.2.2.1 _ (HX.out.1.keep HB0.out (Nat.le_refl _)) HX.out.2.1 HX.out.2.2.1 HX.out.2.2.2.2.1 (HX.out.2.2.2.2.2.on HB0.out)).mono ?_
  rintro e w1 ⟨rfl, hb⟩
  have HB1 : Hid (Below w.heap.size w w1) := bel_on (Nat.le_refl _) HB0.out hb
  clear hb HB0
  go_wp2
  go_ret2
  exact ⟨rfl, HB1.out⟩

set_option maxRecDepth 100000 in
set_option maxHeartbeats 8000000 in
theorem textI_yes (s : SH) (X : SX) (hyes : RightX X) (w : World) (h : RdX w s X) (hs : SmX s X) (hwf : WfU X.U) (hk : s.n0 ≤ s.c0) (hg : Hnd w) :
    Calls Tryz.prog 7 #[SetV s] w fun e w' => e = .returned (.tuple #[.string (txt X), .bool true]) ∧ Below w.heap.size w w' := by
  obtain ⟨f, hf⟩ := fault_ex X
  have hf0 : f = 0 := (fault_right hf).2 hyes
  subst hf0
  have HN : Hid (NumX X) := hyes.num
  have HX : Hid (RdX w s X ∧ SmX s X ∧ WfU X.U ∧ FaultX X 0 ∧ s.n0 ≤ s.c0 ∧ Hnd w) := ⟨h, hs, hwf, hf, hk, hg⟩
  clear hs hwf hf hyes hk hg
  obtain ⟨q0, n0, c0, q1, n1, c1, q2, n2, c2, q3, n3, c3, q4, n4, c4⟩ := s
  obtain ⟨l0, r0, l1, r1, l2, r2, l3, r3, l4, r4⟩ := h
  dsimp only at l0 r0 l1 r1 l2 r2 l3 r3 l4 r4
  have HL0 : Hid (X.R.length = n0) := l0
  have HL1 : Hid (X.W.length = n1) := l1
  have HL2 : Hid (X.O.length = n2) := l2
  have HL3 : Hid (X.U.length = n3) := l3
  have HL4 : Hid (X.S.length = n4) := l4
  have HR0 : Hid (R.RdR w q0 _) := r0
  have HR1 : Hid (RdR w q1 _) := r1
  have HR2 : Hid (RdO w q2 _) := r2
  have HR3 : Hid (RdU w q3 _) := r3
  have HR4 : Hid (S.RdS w q4 _) := r4
  clear l0 r0 l1 r1 l2 r2 l3 r3 l4 r4
  have HB0 : Hid (Below w.heap.size w (w.alloc (.cells #[.slice q0 n0 c0, .slice q1 n1 c1, .slice q2 n2 c2, .slice q3 n3 c3, .slice q4 n4 c4] 30))) := (Below.refl _ _).alloc (Nat.le_refl _) _
  have HP0 : Hid ((w.alloc (.cells #[.slice q0 n0 c0, .slice q1 n1 c1, .slice q2 n2 c2, .slice q3 n3 c3, .slice q4 n4 c4] 30)).heap[w.heap.size]? = some (.cells #[.slice q0 n0 c0, .slice q1 n1 c1, .slice q2 n2 c2, .slice q3 n3 c3, .slice q4 n4 c4] 30)) := heap_new w _
  unfold SetV
  dsimp only
  go_enter Tryz.func7, Tryz.ntmps7
  go_wp2_with fail
  refine (faultI ⟨q0, n0, c0, q1, n1, c1, q2, n2, c2, q3, n3, c3, q4, n4, c4⟩ X 0 HX.out.2.2.2.1 _ (HX.out.1.keep HB0.out (Nat.le_refl _)) HX.out.2.1 HX.out.2.2.1 HX.out.2.2.2.2.1 (HX.out.2.2.2.2.2.on HB0.out)).mono ?_
  rintro e w1 ⟨rfl, hb⟩
  have HB1 : Hid (Below w.heap.size w w1) := bel_on (Nat.le_refl _) HB0.out hb
  have HP1 : Hid (w1.heap[w.heap.size]? = some (.cells #[.slice q0 n0 c0, .slice q1 n1 c1, .slice q2 n2 c2, .slice q3 n3 c3, .slice q4 n4 c4] 30)) := row_on HP0.out hb
  have hwk0 : w.heap.size < w1.heap.size := row_lt HP1.out
  clear hb HB0 HP0 HX
  have hal0 : Below w1.heap.size w1 (w1.alloc (.cells #[.slice none 0 0] 45)) := (Below.refl _ _).alloc (Nat.le_refl _) _
  have HRz : Hid (WrX (w1.alloc (.cells #[.slice none 0 0] 45)) w1.heap.size ⟨#[]⟩) := WrX.start (heap_new w1 _)
  have HWz : Hid (Below w.heap.size w (w1.alloc (.cells #[.slice none 0 0] 45))) := bel_on (Nat.le_refl _) HB1.out hal0
  have HPz : Hid ((w1.alloc (.cells #[.slice none 0 0] 45)).heap[w.heap.size]? = some (.cells #[.slice q0 n0 c0, .slice q1 n1 c1, .slice q2 n2 c2, .slice q3 n3 c3, .slice q4 n4 c4] 30)) := row_on HP1.out hal0
  have hsz1 : (w1.alloc (.cells #[.slice none 0 0] 45)).heap.size = w1.heap.size + 1 := by simp
  have hn1 := HN.out.r.1
  have hl1 := HL0.out
  have f0 : (0 : Int) ≤ (n0 : Int) := by omega
  have f1 : (n0 : Int) ≤ 1000 := by omega
  have z0 := vX_size f0 f1
  have hal : Below (w1.alloc (.cells #[.slice none 0 0] 45)).heap.size (w1.alloc (.cells #[.slice none 0 0] 45)) ((w1.alloc (.cells #[.slice none 0 0] 45)).alloc (.cells #[.int .i64 (n0 : Int)] 3)) := (Below.refl _ _).alloc (Nat.le_refl _) _
  have HRa : Hid (WrX ((w1.alloc (.cells #[.slice none 0 0] 45)).alloc (.cells #[.int .i64 (n0 : Int)] 3)) w1.heap.size ⟨#[]⟩) := HRz.out.on hal
  have HWa : Hid (Below w.heap.size w ((w1.alloc (.cells #[.slice none 0 0] 45)).alloc (.cells #[.int .i64 (n0 : Int)] 3))) := bel_on (Nat.le_refl _) HWz.out hal
  have HPa : Hid (((w1.alloc (.cells #[.slice none 0 0] 45)).alloc (.cells #[.int .i64 (n0 : Int)] 3)).heap[w.heap.size]? = some (.cells #[.slice q0 n0 c0, .slice q1 n1 c1, .slice q2 n2 c2, .slice q3 n3 c3, .slice q4 n4 c4] 30)) := row_on HPz.out hal
  have HRow : Hid (((w1.alloc (.cells #[.slice none 0 0] 45)).alloc (.cells #[.int .i64 (n0 : Int)] 3)).heap[w1.heap.size + 1]? = some (.cells (intsV [(n0 : Int)]).toArray 3)) := by
    have h1 := heap_new (w1.alloc (.cells #[.slice none 0 0] 45)) (.cells #[.int .i64 (n0 : Int)] 3)
    rw [hsz1] at h1
    exact h1
  have HXX : Hid (∀ j (h : j < [(n0 : Int)].length), 0 ≤ [(n0 : Int)][j] ∧ [(n0 : Int)][j] ≤ 1000) := all1 ⟨f0, f1⟩
  have kp := boxO_cells HPz.out
  clear hal hal0 HRz HWz HB1 HP1 hsz1
  go_wp2_with fail
  refine (numbersI w1.heap.size (w1.heap.size + 1) [(n0 : Int)] 1 ⟨#[]⟩ rfl (by decide) HXX.out (Nat.zero_le _) _ HRa.out HRow.out).mono ?_
  rintro e u ⟨rfl, hwr, hb⟩
  obtain ⟨k, hk⟩ : ∃ k, w1.heap.size = k := ⟨_, rfl⟩
  obtain ⟨t0, hT0⟩ : ∃ t0, vX (n0 : Int) = t0 := ⟨_, rfl⟩
  have HTe : Hid ((⟨#[]⟩ : ByteArray) ++ vsT [(n0 : Int)] = t0) := by show _ = _; simp only [vsT, ba_nil, ba_nil']; exact hT0
  have HR : Hid (WrX u w1.heap.size t0) := by show WrX _ _ _; rw [← HTe.out]; exact hwr
  have HW : Hid (Below w.heap.size w u) := HWa.out.trans (hb.mono (by omega))
  have HP : Hid (u.heap[w.heap.size]? = some (.cells #[.slice q0 n0 c0, .slice q1 n1 c1, .slice q2 n2 c2, .slice q3 n3 c3, .slice q4 n4 c4] 30)) := (hb.block _ hwk0).trans HPa.out
  have HNE : Hid ((n0 : Int) = (X.R.length : Int)) := by show _ = _; omega
  have HT : Hid (t0 = vX X.R.length) := by show _ = _; rw [← hT0, HNE.out]
  have ht0 : t0.size ≤ 2000 := by rw [← hT0]; omega
  have hwk : w.heap.size < k := by omega
  rw [hk] at HR ⊢
  clear hwr hb HRa HWa HPa HRow HTe HXX hT0 HNE f0 f1 z0 hn1 hl1 hk HPz kp hwk0
  have kp := boxO_cells HP.out
  go_wp2
  clear kp
  go_loopg [26] n0 (fun gk iv wr => ∃ (j : Nat) (t : ByteArray), j + gk = n0 ∧ iv = .int .i64 j ∧ t.size ≤ 2000 + 3000 * j ∧ Hid (t = vX X.R.length ++ pT (X.R.take j)) ∧ Hid (WrX wr k t) ∧ Hid (Below w.heap.size w wr) ∧ Hid (wr.heap[w.heap.size]? = some (.cells #[.slice q0 n0 c0, .slice q1 n1 c1, .slice q2 n2 c2, .slice q3 n3 c3, .slice q4 n4 c4] 30)))
  case atStart => exact ⟨0, t0, by omega, rfl, by omega, by show _ = _; rw [HT.out, List.take_zero, pT, ba_nil], HR, HW, HP⟩
  case round =>
    clear HW HP HR HT ht0 t0
    try clear hlt
    obtain ⟨j, t, hj, rfl, ht, HT, HR, HW, HP⟩ := hrel
    have kp := boxO_cells HP.out
    by_cases hlt : j < n0
    · have hjl : j < X.R.length := by have := HL0.out; omega
      have hj12 := HN.out.r.1
      have hln := HL0.out
      have ht2 : t.size ≤ 200000 := by omega
      have hjb : j ≤ 100 := by omega
      have hkl := HR.out.lt
      obtain ⟨g, off, ha, hc⟩ := HR0.out (by omega)
      have hgl : g < w.heap.size := World.block_lt_of_cell? w ⟨g, off + j * 2, none⟩ (hc j hjl).1
      subst ha
      have cc := hc j hjl
      have nn := HN.out.r.2 j hjl
      have HTK : Hid (pT (X.R.take (j + 1)) = pT (X.R.take j) ++ vX (X.R[j]).1 ++ vX (X.R[j]).2) := pT_take hjl
      have cf0 := (HW.out.cell (p := ⟨g, off + j * 2, none⟩) hgl).trans cc.1
      have cf1 := (HW.out.cell (p := ⟨g, off + j * 2 + 1, none⟩) hgl).trans cc.2
      obtain ⟨x0, e0⟩ : ∃ z, (X.R[j]).1 = z := ⟨_, rfl⟩
      obtain ⟨x1, e1⟩ : ∃ z, (X.R[j]).2 = z := ⟨_, rfl⟩
      rw [e0, e1] at nn
      rw [e0] at cf0
      rw [e1] at cf1
      have HTJ : Hid (pT (X.R.take (j + 1)) = pT (X.R.take j) ++ vX x0 ++ vX x1) := by have := HTK.out; rw [e0, e1] at this; exact this
      obtain ⟨⟨f0, g0⟩, ⟨f1, g1⟩⟩ := nn
      clear hc hjl cc HTK e0 e1
      have z0 := vX_size f0 g0
      have z1 := vX_size f1 g1
      have hal : Below wr.heap.size wr ((wr.alloc (.cells #[.int .i64 x0, .int .i64 x1] 48)).alloc (.cells #[.int .i64 x0, .int .i64 x1] 3)) := ((Below.refl _ _).alloc (Nat.le_refl _) _).alloc (by simp) _
      have HRa : Hid (WrX ((wr.alloc (.cells #[.int .i64 x0, .int .i64 x1] 48)).alloc (.cells #[.int .i64 x0, .int .i64 x1] 3)) k t) := HR.out.on hal
      have HWa : Hid (Below w.heap.size w ((wr.alloc (.cells #[.int .i64 x0, .int .i64 x1] 48)).alloc (.cells #[.int .i64 x0, .int .i64 x1] 3))) := bel_on (Nat.le_refl _) HW.out hal
      have HPa : Hid (((wr.alloc (.cells #[.int .i64 x0, .int .i64 x1] 48)).alloc (.cells #[.int .i64 x0, .int .i64 x1] 3)).heap[w.heap.size]? = some (.cells #[.slice (some ⟨g, off, none⟩) n0 c0, .slice q1 n1 c1, .slice q2 n2 c2, .slice q3 n3 c3, .slice q4 n4 c4] 30)) := row_on HP.out hal
      have HRow : Hid (((wr.alloc (.cells #[.int .i64 x0, .int .i64 x1] 48)).alloc (.cells #[.int .i64 x0, .int .i64 x1] 3)).heap[wr.heap.size + 1]? = some (.cells (intsV [x0, x1]).toArray 3)) := by
        have h1 := heap_new (wr.alloc (.cells #[.int .i64 x0, .int .i64 x1] 48)) (.cells #[.int .i64 x0, .int .i64 x1] 3)
        have e1 : (wr.alloc (.cells #[.int .i64 x0, .int .i64 x1] 48)).heap.size = wr.heap.size + 1 := by simp
        rw [e1] at h1
        exact h1
      have HXX : Hid (∀ j (h : j < [x0, x1].length), 0 ≤ [x0, x1][j] ∧ [x0, x1][j] ≤ 1000) := all2 ⟨f0, g0⟩ ⟨f1, g1⟩
      clear hal HR HW HP hln hj12
      go_wp2_with fail
      refine (numbersI k (wr.heap.size + 1) [x0, x1] 2 t rfl (by decide) HXX.out ht2 _ HRa.out HRow.out).mono ?_
      rintro e u ⟨rfl, hwr, hb⟩
      have HTe : Hid (t ++ vsT [x0, x1] = t ++ vX x0 ++ vX x1) := by show _ = _; simp only [vsT, ba_nil, ba_assoc]
      have HR2 : Hid (WrX u k (t ++ vX x0 ++ vX x1)) := by show WrX _ _ _; rw [← HTe.out]; exact hwr
      have HW2 : Hid (Below w.heap.size w u) := HWa.out.trans (hb.mono (by omega))
      have HP2 : Hid (u.heap[w.heap.size]? = some (.cells #[.slice (some ⟨g, off, none⟩) n0 c0, .slice q1 n1 c1, .slice q2 n2 c2, .slice q3 n3 c3, .slice q4 n4 c4] 30)) := (hb.block _ hwk).trans HPa.out
      have HT' : Hid (t ++ vX x0 ++ vX x1 = vX X.R.length ++ pT (X.R.take (j + 1))) := by show _ = _; rw [HTJ.out, HT.out]; simp only [ba_assoc]
      have hts : (t ++ vX x0 ++ vX x1).size ≤ 2000 + 3000 * (j + 1) := by rw [ba_size, ba_size]; omega
      clear hwr hb HRa HWa HPa HRow HT HTJ HTe HXX kp cf0 cf1 hkl
      go_wp2
      go_roundg (gk - 1)
      case measure => omega
      case rel => exact ⟨j + 1, _, by omega, by go_num, hts, HT', HR2, HW2, HP2⟩
    · have hj12 := HN.out.r.1
      have hln := HL0.out
      have HT2 : Hid (t = vX X.R.length ++ pT X.R) := by
        have h5 := HT.out
        rw [List.take_of_length_le (by omega)] at h5
        exact h5
      have ht2 : t.size ≤ 14000 := by omega
      clear HT ht hln hj12
      have hn1 := HN.out.w.1
      have hl1 := HL1.out
      have f0 : (0 : Int) ≤ (n1 : Int) := by omega
      have f1 : (n1 : Int) ≤ 1000 := by omega
      have z0 := vX_size f0 f1
      have hkl := HR.out.lt
      have hal : Below wr.heap.size wr (wr.alloc (.cells #[.int .i64 (n1 : Int)] 3)) := (Below.refl _ _).alloc (Nat.le_refl _) _
      have HRa : Hid (WrX (wr.alloc (.cells #[.int .i64 (n1 : Int)] 3)) k t) := HR.out.on hal
      have HWa : Hid (Below w.heap.size w (wr.alloc (.cells #[.int .i64 (n1 : Int)] 3))) := bel_on (Nat.le_refl _) HW.out hal
      have HPa : Hid ((wr.alloc (.cells #[.int .i64 (n1 : Int)] 3)).heap[w.heap.size]? = some (.cells #[.slice q0 n0 c0, .slice q1 n1 c1, .slice q2 n2 c2, .slice q3 n3 c3, .slice q4 n4 c4] 30)) := row_on HP.out hal
      have HRow : Hid ((wr.alloc (.cells #[.int .i64 (n1 : Int)] 3)).heap[wr.heap.size]? = some (.cells (intsV [(n1 : Int)]).toArray 3)) := heap_new wr (.cells #[.int .i64 (n1 : Int)] 3)
      have HXX : Hid (∀ j (h : j < [(n1 : Int)].length), 0 ≤ [(n1 : Int)][j] ∧ [(n1 : Int)][j] ≤ 1000) := all1 ⟨f0, f1⟩
      clear hal HR HW HP
      go_wp2_with fail
      refine (numbersI k wr.heap.size [(n1 : Int)] 1 t rfl (by decide) HXX.out (by omega) _ HRa.out HRow.out).mono ?_
      rintro e u ⟨rfl, hwr, hb⟩
      have HTe : Hid (t ++ vsT [(n1 : Int)] = t ++ vX (n1 : Int)) := by show _ = _; simp only [vsT, ba_nil]
      obtain ⟨t0, hT0⟩ : ∃ t0, t ++ vX (n1 : Int) = t0 := ⟨_, rfl⟩
      have HR : Hid (WrX u k t0) := by show WrX _ _ _; rw [← hT0, ← HTe.out]; exact hwr
      have HW : Hid (Below w.heap.size w u) := HWa.out.trans (hb.mono (by omega))
      have HP : Hid (u.heap[w.heap.size]? = some (.cells #[.slice q0 n0 c0, .slice q1 n1 c1, .slice q2 n2 c2, .slice q3 n3 c3, .slice q4 n4 c4] 30)) := (hb.block _ hwk).trans HPa.out
      have HNE : Hid ((n1 : Int) = (X.W.length : Int)) := by show _ = _; omega
      have HT : Hid (t0 = tA X ++ vX X.W.length) := by show _ = _; rw [← hT0, HT2.out, HNE.out]; rfl
      have ht0 : t0.size ≤ 20000 := by rw [← hT0, ba_size]; omega
      clear hwr hb HRa HWa HPa HRow HTe HXX hT0 HNE f0 f1 z0 hn1 hl1 hkl
      try clear kp
      have kp := boxO_cells HP.out
      go_wp2
      clear kp
      clear HT2 ht2
      go_loopg [45] n1 (fun gk iv wr => ∃ (j : Nat) (t : ByteArray), j + gk = n1 ∧ iv = .int .i64 j ∧ t.size ≤ 20000 + 3000 * j ∧ Hid (t = tA X ++ vX X.W.length ++ pT (X.W.take j)) ∧ Hid (WrX wr k t) ∧ Hid (Below w.heap.size w wr) ∧ Hid (wr.heap[w.heap.size]? = some (.cells #[.slice q0 n0 c0, .slice q1 n1 c1, .slice q2 n2 c2, .slice q3 n3 c3, .slice q4 n4 c4] 30)))
      case atStart => exact ⟨0, t0, by omega, rfl, by omega, by show _ = _; rw [HT.out, List.take_zero, pT, ba_nil], HR, HW, HP⟩
      case round =>
        clear HW HP HR HT ht0 t0
        try clear hlt
        obtain ⟨j, t, hj, rfl, ht, HT, HR, HW, HP⟩ := hrel
        have kp := boxO_cells HP.out
        by_cases hlt : j < n1
        · have hjl : j < X.W.length := by have := HL1.out; omega
          have hj12 := HN.out.w.1
          have hln := HL1.out
          have ht2 : t.size ≤ 200000 := by omega
          have hjb : j ≤ 100 := by omega
          have hkl := HR.out.lt
          obtain ⟨g, off, ha, hc⟩ := HR1.out (by omega)
          have hgl : g < w.heap.size := World.block_lt_of_cell? w ⟨g, off + j * 2, none⟩ (hc j hjl).1
          subst ha
          have cc := hc j hjl
          have nn := HN.out.w.2 j hjl
          have HTK : Hid (pT (X.W.take (j + 1)) = pT (X.W.take j) ++ vX (X.W[j]).1 ++ vX (X.W[j]).2) := pT_take hjl
          have cf0 := (HW.out.cell (p := ⟨g, off + j * 2, none⟩) hgl).trans cc.1
          have cf1 := (HW.out.cell (p := ⟨g, off + j * 2 + 1, none⟩) hgl).trans cc.2
          obtain ⟨x0, e0⟩ : ∃ z, (X.W[j]).1 = z := ⟨_, rfl⟩
          obtain ⟨x1, e1⟩ : ∃ z, (X.W[j]).2 = z := ⟨_, rfl⟩
          rw [e0, e1] at nn
          rw [e0] at cf0
          rw [e1] at cf1
          have HTJ : Hid (pT (X.W.take (j + 1)) = pT (X.W.take j) ++ vX x0 ++ vX x1) := by have := HTK.out; rw [e0, e1] at this; exact this
          obtain ⟨⟨f0, g0⟩, ⟨f1, g1⟩⟩ := nn
          clear hc hjl cc HTK e0 e1
          have z0 := vX_size f0 g0
          have z1 := vX_size f1 g1
          have hal : Below wr.heap.size wr ((wr.alloc (.cells #[.int .i64 x0, .int .i64 x1] 50)).alloc (.cells #[.int .i64 x0, .int .i64 x1] 3)) := ((Below.refl _ _).alloc (Nat.le_refl _) _).alloc (by simp) _
          have HRa : Hid (WrX ((wr.alloc (.cells #[.int .i64 x0, .int .i64 x1] 50)).alloc (.cells #[.int .i64 x0, .int .i64 x1] 3)) k t) := HR.out.on hal
          have HWa : Hid (Below w.heap.size w ((wr.alloc (.cells #[.int .i64 x0, .int .i64 x1] 50)).alloc (.cells #[.int .i64 x0, .int .i64 x1] 3))) := bel_on (Nat.le_refl _) HW.out hal
          have HPa : Hid (((wr.alloc (.cells #[.int .i64 x0, .int .i64 x1] 50)).alloc (.cells #[.int .i64 x0, .int .i64 x1] 3)).heap[w.heap.size]? = some (.cells #[.slice q0 n0 c0, .slice (some ⟨g, off, none⟩) n1 c1, .slice q2 n2 c2, .slice q3 n3 c3, .slice q4 n4 c4] 30)) := row_on HP.out hal
          have HRow : Hid (((wr.alloc (.cells #[.int .i64 x0, .int .i64 x1] 50)).alloc (.cells #[.int .i64 x0, .int .i64 x1] 3)).heap[wr.heap.size + 1]? = some (.cells (intsV [x0, x1]).toArray 3)) := by
            have h1 := heap_new (wr.alloc (.cells #[.int .i64 x0, .int .i64 x1] 50)) (.cells #[.int .i64 x0, .int .i64 x1] 3)
            have e1 : (wr.alloc (.cells #[.int .i64 x0, .int .i64 x1] 50)).heap.size = wr.heap.size + 1 := by simp
            rw [e1] at h1
            exact h1
          have HXX : Hid (∀ j (h : j < [x0, x1].length), 0 ≤ [x0, x1][j] ∧ [x0, x1][j] ≤ 1000) := all2 ⟨f0, g0⟩ ⟨f1, g1⟩
          clear hal HR HW HP hln hj12
          go_wp2_with fail
          refine (numbersI k (wr.heap.size + 1) [x0, x1] 2 t rfl (by decide) HXX.out ht2 _ HRa.out HRow.out).mono ?_
          rintro e u ⟨rfl, hwr, hb⟩
          have HTe : Hid (t ++ vsT [x0, x1] = t ++ vX x0 ++ vX x1) := by show _ = _; simp only [vsT, ba_nil, ba_assoc]
          have HR2 : Hid (WrX u k (t ++ vX x0 ++ vX x1)) := by show WrX _ _ _; rw [← HTe.out]; exact hwr
          have HW2 : Hid (Below w.heap.size w u) := HWa.out.trans (hb.mono (by omega))
          have HP2 : Hid (u.heap[w.heap.size]? = some (.cells #[.slice q0 n0 c0, .slice (some ⟨g, off, none⟩) n1 c1, .slice q2 n2 c2, .slice q3 n3 c3, .slice q4 n4 c4] 30)) := (hb.block _ hwk).trans HPa.out
          have HT' : Hid (t ++ vX x0 ++ vX x1 = tA X ++ vX X.W.length ++ pT (X.W.take (j + 1))) := by show _ = _; rw [HTJ.out, HT.out]; simp only [ba_assoc]
          have hts : (t ++ vX x0 ++ vX x1).size ≤ 20000 + 3000 * (j + 1) := by rw [ba_size, ba_size]; omega
          clear hwr hb HRa HWa HPa HRow HT HTJ HTe HXX kp cf0 cf1 hkl
          go_wp2
          go_roundg (gk - 1)
          case measure => omega
          case rel => exact ⟨j + 1, _, by omega, by go_num, hts, HT', HR2, HW2, HP2⟩
        · have hj12 := HN.out.w.1
          have hln := HL1.out
          have HT2 : Hid (t = tA X ++ vX X.W.length ++ pT X.W) := by
            have h5 := HT.out
            rw [List.take_of_length_le (by omega)] at h5
            exact h5
          have ht2 : t.size ≤ 56000 := by omega
          clear HT ht hln hj12
          have hn1 := HN.out.o.1
          have hl1 := HL2.out
          have f0 : (0 : Int) ≤ (n2 : Int) := by omega
          have f1 : (n2 : Int) ≤ 1000 := by omega
          have z0 := vX_size f0 f1
          have hkl := HR.out.lt
          have hal : Below wr.heap.size wr (wr.alloc (.cells #[.int .i64 (n2 : Int)] 3)) := (Below.refl _ _).alloc (Nat.le_refl _) _
          have HRa : Hid (WrX (wr.alloc (.cells #[.int .i64 (n2 : Int)] 3)) k t) := HR.out.on hal
          have HWa : Hid (Below w.heap.size w (wr.alloc (.cells #[.int .i64 (n2 : Int)] 3))) := bel_on (Nat.le_refl _) HW.out hal
          have HPa : Hid ((wr.alloc (.cells #[.int .i64 (n2 : Int)] 3)).heap[w.heap.size]? = some (.cells #[.slice q0 n0 c0, .slice q1 n1 c1, .slice q2 n2 c2, .slice q3 n3 c3, .slice q4 n4 c4] 30)) := row_on HP.out hal
          have HRow : Hid ((wr.alloc (.cells #[.int .i64 (n2 : Int)] 3)).heap[wr.heap.size]? = some (.cells (intsV [(n2 : Int)]).toArray 3)) := heap_new wr (.cells #[.int .i64 (n2 : Int)] 3)
          have HXX : Hid (∀ j (h : j < [(n2 : Int)].length), 0 ≤ [(n2 : Int)][j] ∧ [(n2 : Int)][j] ≤ 1000) := all1 ⟨f0, f1⟩
          clear hal HR HW HP
          go_wp2_with fail
          refine (numbersI k wr.heap.size [(n2 : Int)] 1 t rfl (by decide) HXX.out (by omega) _ HRa.out HRow.out).mono ?_
          rintro e u ⟨rfl, hwr, hb⟩
          have HTe : Hid (t ++ vsT [(n2 : Int)] = t ++ vX (n2 : Int)) := by show _ = _; simp only [vsT, ba_nil]
          obtain ⟨t0, hT0⟩ : ∃ t0, t ++ vX (n2 : Int) = t0 := ⟨_, rfl⟩
          have HR : Hid (WrX u k t0) := by show WrX _ _ _; rw [← hT0, ← HTe.out]; exact hwr
          have HW : Hid (Below w.heap.size w u) := HWa.out.trans (hb.mono (by omega))
          have HP : Hid (u.heap[w.heap.size]? = some (.cells #[.slice q0 n0 c0, .slice q1 n1 c1, .slice q2 n2 c2, .slice q3 n3 c3, .slice q4 n4 c4] 30)) := (hb.block _ hwk).trans HPa.out
          have HNE : Hid ((n2 : Int) = (X.O.length : Int)) := by show _ = _; omega
          have HT : Hid (t0 = tB X ++ vX X.O.length) := by show _ = _; rw [← hT0, HT2.out, HNE.out]; rfl
          have ht0 : t0.size ≤ 60000 := by rw [← hT0, ba_size]; omega
          clear hwr hb HRa HWa HPa HRow HTe HXX hT0 HNE f0 f1 z0 hn1 hl1 hkl
          try clear kp
          have kp := boxO_cells HP.out
          go_wp2
          clear kp
          clear HT2 ht2
          go_loopg [64] n2 (fun gk iv wr => ∃ (j : Nat) (t : ByteArray), j + gk = n2 ∧ iv = .int .i64 j ∧ t.size ≤ 60000 + 6000 * j ∧ Hid (t = tB X ++ vX X.O.length ++ oT (X.O.take j)) ∧ Hid (WrX wr k t) ∧ Hid (Below w.heap.size w wr) ∧ Hid (wr.heap[w.heap.size]? = some (.cells #[.slice q0 n0 c0, .slice q1 n1 c1, .slice q2 n2 c2, .slice q3 n3 c3, .slice q4 n4 c4] 30)))
          case atStart => exact ⟨0, t0, by omega, rfl, by omega, by show _ = _; rw [HT.out, List.take_zero, oT, ba_nil], HR, HW, HP⟩
          case round =>
            clear HW HP HR HT ht0 t0
            try clear hlt
            obtain ⟨j, t, hj, rfl, ht, HT, HR, HW, HP⟩ := hrel
            have kp := boxO_cells HP.out
            by_cases hlt : j < n2
            · have hjl : j < X.O.length := by have := HL2.out; omega
              have hj12 := HN.out.o.1
              have hln := HL2.out
              have ht2 : t.size ≤ 200000 := by omega
              have hjb : j ≤ 100 := by omega
              have hkl := HR.out.lt
              obtain ⟨g, off, ha, hc⟩ := HR2.out (by omega)
              have hgl : g < w.heap.size := World.block_lt_of_cell? w ⟨g, off + j * 5, none⟩ (hc j hjl).1
              subst ha
              have cc := hc j hjl
              have nn := HN.out.o.2 j hjl
              have HTK : Hid (oT (X.O.take (j + 1)) = oT (X.O.take j) ++ vX (X.O[j]).1 ++ vX (X.O[j]).2.1 ++ vX (X.O[j]).2.2.1 ++ vX (X.O[j]).2.2.2.1 ++ vX (X.O[j]).2.2.2.2) := oT_take hjl
              have cf0 := (HW.out.cell (p := ⟨g, off + j * 5, none⟩) hgl).trans cc.1
              have cf1 := (HW.out.cell (p := ⟨g, off + j * 5 + 1, none⟩) hgl).trans cc.2.1
              have cf2 := (HW.out.cell (p := ⟨g, off + j * 5 + 2, none⟩) hgl).trans cc.2.2.1
              have cf3 := (HW.out.cell (p := ⟨g, off + j * 5 + 3, none⟩) hgl).trans cc.2.2.2.1
              have cf4 := (HW.out.cell (p := ⟨g, off + j * 5 + 4, none⟩) hgl).trans cc.2.2.2.2
              obtain ⟨x0, e0⟩ : ∃ z, (X.O[j]).1 = z := ⟨_, rfl⟩
              obtain ⟨x1, e1⟩ : ∃ z, (X.O[j]).2.1 = z := ⟨_, rfl⟩
              obtain ⟨x2, e2⟩ : ∃ z, (X.O[j]).2.2.1 = z := ⟨_, rfl⟩
              obtain ⟨x3, e3⟩ : ∃ z, (X.O[j]).2.2.2.1 = z := ⟨_, rfl⟩
              obtain ⟨x4, e4⟩ : ∃ z, (X.O[j]).2.2.2.2 = z := ⟨_, rfl⟩
              rw [e0, e1, e2, e3, e4] at nn
              rw [e0] at cf0
              rw [e1] at cf1
              rw [e2] at cf2
              rw [e3] at cf3
              rw [e4] at cf4
              have HTJ : Hid (oT (X.O.take (j + 1)) = oT (X.O.take j) ++ vX x0 ++ vX x1 ++ vX x2 ++ vX x3 ++ vX x4) := by have := HTK.out; rw [e0, e1, e2, e3, e4] at this; exact this
              obtain ⟨⟨f0, g0⟩, ⟨f1, g1⟩, ⟨f2, g2⟩, ⟨f3, g3⟩, ⟨f4, g4⟩⟩ := nn
              clear hc hjl cc HTK e0 e1 e2 e3 e4
              have z0 := vX_size f0 g0
              have z1 := vX_size f1 g1
              have z2 := vX_size f2 g2
              have z3 := vX_size f3 g3
              have z4 := vX_size f4 g4
              have hal : Below wr.heap.size wr ((wr.alloc (.cells #[.int .i64 x0, .int .i64 x1, .int .i64 x2, .int .i64 x3, .int .i64 x4] 52)).alloc (.cells #[.int .i64 x0, .int .i64 x1, .int .i64 x2, .int .i64 x3, .int .i64 x4] 3)) := ((Below.refl _ _).alloc (Nat.le_refl _) _).alloc (by simp) _
              have HRa : Hid (WrX ((wr.alloc (.cells #[.int .i64 x0, .int .i64 x1, .int .i64 x2, .int .i64 x3, .int .i64 x4] 52)).alloc (.cells #[.int .i64 x0, .int .i64 x1, .int .i64 x2, .int .i64 x3, .int .i64 x4] 3)) k t) := HR.out.on hal
              have HWa : Hid (Below w.heap.size w ((wr.alloc (.cells #[.int .i64 x0, .int .i64 x1, .int .i64 x2, .int .i64 x3, .int .i64 x4] 52)).alloc (.cells #[.int .i64 x0, .int .i64 x1, .int .i64 x2, .int .i64 x3, .int .i64 x4] 3))) := bel_on (Nat.le_refl _) HW.out hal
              have HPa : Hid (((wr.alloc (.cells #[.int .i64 x0, .int .i64 x1, .int .i64 x2, .int .i64 x3, .int .i64 x4] 52)).alloc (.cells #[.int .i64 x0, .int .i64 x1, .int .i64 x2, .int .i64 x3, .int .i64 x4] 3)).heap[w.heap.size]? = some (.cells #[.slice q0 n0 c0, .slice q1 n1 c1, .slice (some ⟨g, off, none⟩) n2 c2, .slice q3 n3 c3, .slice q4 n4 c4] 30)) := row_on HP.out hal
              have HRow : Hid (((wr.alloc (.cells #[.int .i64 x0, .int .i64 x1, .int .i64 x2, .int .i64 x3, .int .i64 x4] 52)).alloc (.cells #[.int .i64 x0, .int .i64 x1, .int .i64 x2, .int .i64 x3, .int .i64 x4] 3)).heap[wr.heap.size + 1]? = some (.cells (intsV [x0, x1, x2, x3, x4]).toArray 3)) := by
                have h1 := heap_new (wr.alloc (.cells #[.int .i64 x0, .int .i64 x1, .int .i64 x2, .int .i64 x3, .int .i64 x4] 52)) (.cells #[.int .i64 x0, .int .i64 x1, .int .i64 x2, .int .i64 x3, .int .i64 x4] 3)
                have e1 : (wr.alloc (.cells #[.int .i64 x0, .int .i64 x1, .int .i64 x2, .int .i64 x3, .int .i64 x4] 52)).heap.size = wr.heap.size + 1 := by simp
                rw [e1] at h1
                exact h1
              have HXX : Hid (∀ j (h : j < [x0, x1, x2, x3, x4].length), 0 ≤ [x0, x1, x2, x3, x4][j] ∧ [x0, x1, x2, x3, x4][j] ≤ 1000) := all5 ⟨f0, g0⟩ ⟨f1, g1⟩ ⟨f2, g2⟩ ⟨f3, g3⟩ ⟨f4, g4⟩
              clear hal HR HW HP hln hj12
              go_wp2_with fail
              refine (numbersI k (wr.heap.size + 1) [x0, x1, x2, x3, x4] 5 t rfl (by decide) HXX.out ht2 _ HRa.out HRow.out).mono ?_
              rintro e u ⟨rfl, hwr, hb⟩
              have HTe : Hid (t ++ vsT [x0, x1, x2, x3, x4] = t ++ vX x0 ++ vX x1 ++ vX x2 ++ vX x3 ++ vX x4) := by show _ = _; simp only [vsT, ba_nil, ba_assoc]
              have HR2 : Hid (WrX u k (t ++ vX x0 ++ vX x1 ++ vX x2 ++ vX x3 ++ vX x4)) := by show WrX _ _ _; rw [← HTe.out]; exact hwr
              have HW2 : Hid (Below w.heap.size w u) := HWa.out.trans (hb.mono (by omega))
              have HP2 : Hid (u.heap[w.heap.size]? = some (.cells #[.slice q0 n0 c0, .slice q1 n1 c1, .slice (some ⟨g, off, none⟩) n2 c2, .slice q3 n3 c3, .slice q4 n4 c4] 30)) := (hb.block _ hwk).trans HPa.out
              have HT' : Hid (t ++ vX x0 ++ vX x1 ++ vX x2 ++ vX x3 ++ vX x4 = tB X ++ vX X.O.length ++ oT (X.O.take (j + 1))) := by show _ = _; rw [HTJ.out, HT.out]; simp only [ba_assoc]
              have hts : (t ++ vX x0 ++ vX x1 ++ vX x2 ++ vX x3 ++ vX x4).size ≤ 60000 + 6000 * (j + 1) := by rw [ba_size, ba_size, ba_size, ba_size, ba_size]; omega
              clear hwr hb HRa HWa HPa HRow HT HTJ HTe HXX kp cf0 cf1 cf2 cf3 cf4 hkl
              go_wp2
              go_roundg (gk - 1)
              case measure => omega
              case rel => exact ⟨j + 1, _, by omega, by go_num, hts, HT', HR2, HW2, HP2⟩
            · have hj12 := HN.out.o.1
              have hln := HL2.out
              have HT2 : Hid (t = tB X ++ vX X.O.length ++ oT X.O) := by
                have h5 := HT.out
                rw [List.take_of_length_le (by omega)] at h5
                exact h5
              have ht2 : t.size ≤ 96000 := by omega
              clear HT ht hln hj12
              have hn1 := HN.out.u.1
              have hl1 := HL3.out
              have f0 : (0 : Int) ≤ (n3 : Int) := by omega
              have f1 : (n3 : Int) ≤ 1000 := by omega
              have z0 := vX_size f0 f1
              have hkl := HR.out.lt
              have hal : Below wr.heap.size wr (wr.alloc (.cells #[.int .i64 (n3 : Int)] 3)) := (Below.refl _ _).alloc (Nat.le_refl _) _
              have HRa : Hid (WrX (wr.alloc (.cells #[.int .i64 (n3 : Int)] 3)) k t) := HR.out.on hal
              have HWa : Hid (Below w.heap.size w (wr.alloc (.cells #[.int .i64 (n3 : Int)] 3))) := bel_on (Nat.le_refl _) HW.out hal
              have HPa : Hid ((wr.alloc (.cells #[.int .i64 (n3 : Int)] 3)).heap[w.heap.size]? = some (.cells #[.slice q0 n0 c0, .slice q1 n1 c1, .slice q2 n2 c2, .slice q3 n3 c3, .slice q4 n4 c4] 30)) := row_on HP.out hal
              have HRow : Hid ((wr.alloc (.cells #[.int .i64 (n3 : Int)] 3)).heap[wr.heap.size]? = some (.cells (intsV [(n3 : Int)]).toArray 3)) := heap_new wr (.cells #[.int .i64 (n3 : Int)] 3)
              have HXX : Hid (∀ j (h : j < [(n3 : Int)].length), 0 ≤ [(n3 : Int)][j] ∧ [(n3 : Int)][j] ≤ 1000) := all1 ⟨f0, f1⟩
              clear hal HR HW HP
              go_wp2_with fail
              refine (numbersI k wr.heap.size [(n3 : Int)] 1 t rfl (by decide) HXX.out (by omega) _ HRa.out HRow.out).mono ?_
              rintro e u ⟨rfl, hwr, hb⟩
              have HTe : Hid (t ++ vsT [(n3 : Int)] = t ++ vX (n3 : Int)) := by show _ = _; simp only [vsT, ba_nil]
              obtain ⟨t0, hT0⟩ : ∃ t0, t ++ vX (n3 : Int) = t0 := ⟨_, rfl⟩
              have HR : Hid (WrX u k t0) := by show WrX _ _ _; rw [← hT0, ← HTe.out]; exact hwr
              have HW : Hid (Below w.heap.size w u) := HWa.out.trans (hb.mono (by omega))
              have HP : Hid (u.heap[w.heap.size]? = some (.cells #[.slice q0 n0 c0, .slice q1 n1 c1, .slice q2 n2 c2, .slice q3 n3 c3, .slice q4 n4 c4] 30)) := (hb.block _ hwk).trans HPa.out
              have HNE : Hid ((n3 : Int) = (X.U.length : Int)) := by show _ = _; omega
              have HT : Hid (t0 = tC X ++ vX X.U.length) := by show _ = _; rw [← hT0, HT2.out, HNE.out]; rfl
              have ht0 : t0.size ≤ 100000 := by rw [← hT0, ba_size]; omega
              clear hwr hb HRa HWa HPa HRow HTe HXX hT0 HNE f0 f1 z0 hn1 hl1 hkl
              try clear kp
              have kp := boxO_cells HP.out
              go_wp2
              clear kp
              clear HT2 ht2
              go_loopg [89] n3 (fun gk iv wr => ∃ (j : Nat) (t : ByteArray), j + gk = n3 ∧ iv = .int .i64 j ∧ t.size ≤ 100000 + 4000 * j ∧ Hid (t = tC X ++ vX X.U.length ++ uT (X.U.take j)) ∧ Hid (WrX wr k t) ∧ Hid (Below w.heap.size w wr) ∧ Hid (wr.heap[w.heap.size]? = some (.cells #[.slice q0 n0 c0, .slice q1 n1 c1, .slice q2 n2 c2, .slice q3 n3 c3, .slice q4 n4 c4] 30)))
              case atStart => exact ⟨0, t0, by omega, rfl, by omega, by show _ = _; rw [HT.out, List.take_zero, uT, ba_nil], HR, HW, HP⟩
              case round =>
                clear HW HP HR HT ht0 t0
                try clear hlt
                obtain ⟨j, t, hj, rfl, ht, HT, HR, HW, HP⟩ := hrel
                have kp := boxO_cells HP.out
                by_cases hlt : j < n3
                · have hjl : j < X.U.length := by have := HL3.out; omega
                  have hj12 := HN.out.u.1
                  have hln := HL3.out
                  have ht2 : t.size ≤ 200000 := by omega
                  have hjb : j ≤ 100 := by omega
                  have hkl := HR.out.lt
                  obtain ⟨g, off, ha, hc⟩ := HR3.out (by omega)
                  have hgl : g < w.heap.size := World.block_lt_of_cell? w ⟨g, off + j * 3, none⟩ (hc j hjl).1
                  subst ha
                  have cc := hc j hjl
                  have nn := HN.out.u.2 j hjl
                  have HTK : Hid (uT (X.U.take (j + 1)) = uT (X.U.take j) ++ vX (X.U[j]).1 ++ vX (X.U[j]).2.1 ++ vX (X.U[j]).2.2) := uT_take hjl
                  have cf0 := (HW.out.cell (p := ⟨g, off + j * 3, none⟩) hgl).trans cc.1
                  have cf1 := (HW.out.cell (p := ⟨g, off + j * 3 + 1, none⟩) hgl).trans cc.2.1
                  have cf2 := (HW.out.cell (p := ⟨g, off + j * 3 + 2, none⟩) hgl).trans cc.2.2
                  obtain ⟨x0, e0⟩ : ∃ z, (X.U[j]).1 = z := ⟨_, rfl⟩
                  obtain ⟨x1, e1⟩ : ∃ z, (X.U[j]).2.1 = z := ⟨_, rfl⟩
                  obtain ⟨x2, e2⟩ : ∃ z, (X.U[j]).2.2 = z := ⟨_, rfl⟩
                  rw [e0, e1, e2] at nn
                  rw [e0] at cf0
                  rw [e1] at cf1
                  rw [e2] at cf2
                  have HTJ : Hid (uT (X.U.take (j + 1)) = uT (X.U.take j) ++ vX x0 ++ vX x1 ++ vX x2) := by have := HTK.out; rw [e0, e1, e2] at this; exact this
                  obtain ⟨⟨f0, g0⟩, ⟨f1, g1⟩, ⟨f2, g2⟩⟩ := nn
                  clear hc hjl cc HTK e0 e1 e2
                  have z0 := vX_size f0 g0
                  have z1 := vX_size f1 g1
                  have z2 := vX_size f2 g2
                  have hal : Below wr.heap.size wr ((wr.alloc (.cells #[.int .i64 x0, .int .i64 x1, .int .i64 x2] 54)).alloc (.cells #[.int .i64 x0, .int .i64 x1, .int .i64 x2] 3)) := ((Below.refl _ _).alloc (Nat.le_refl _) _).alloc (by simp) _
                  have HRa : Hid (WrX ((wr.alloc (.cells #[.int .i64 x0, .int .i64 x1, .int .i64 x2] 54)).alloc (.cells #[.int .i64 x0, .int .i64 x1, .int .i64 x2] 3)) k t) := HR.out.on hal
                  have HWa : Hid (Below w.heap.size w ((wr.alloc (.cells #[.int .i64 x0, .int .i64 x1, .int .i64 x2] 54)).alloc (.cells #[.int .i64 x0, .int .i64 x1, .int .i64 x2] 3))) := bel_on (Nat.le_refl _) HW.out hal
                  have HPa : Hid (((wr.alloc (.cells #[.int .i64 x0, .int .i64 x1, .int .i64 x2] 54)).alloc (.cells #[.int .i64 x0, .int .i64 x1, .int .i64 x2] 3)).heap[w.heap.size]? = some (.cells #[.slice q0 n0 c0, .slice q1 n1 c1, .slice q2 n2 c2, .slice (some ⟨g, off, none⟩) n3 c3, .slice q4 n4 c4] 30)) := row_on HP.out hal
                  have HRow : Hid (((wr.alloc (.cells #[.int .i64 x0, .int .i64 x1, .int .i64 x2] 54)).alloc (.cells #[.int .i64 x0, .int .i64 x1, .int .i64 x2] 3)).heap[wr.heap.size + 1]? = some (.cells (intsV [x0, x1, x2]).toArray 3)) := by
                    have h1 := heap_new (wr.alloc (.cells #[.int .i64 x0, .int .i64 x1, .int .i64 x2] 54)) (.cells #[.int .i64 x0, .int .i64 x1, .int .i64 x2] 3)
                    have e1 : (wr.alloc (.cells #[.int .i64 x0, .int .i64 x1, .int .i64 x2] 54)).heap.size = wr.heap.size + 1 := by simp
                    rw [e1] at h1
                    exact h1
                  have HXX : Hid (∀ j (h : j < [x0, x1, x2].length), 0 ≤ [x0, x1, x2][j] ∧ [x0, x1, x2][j] ≤ 1000) := all3 ⟨f0, g0⟩ ⟨f1, g1⟩ ⟨f2, g2⟩
                  clear hal HR HW HP hln hj12
                  go_wp2_with fail
                  refine (numbersI k (wr.heap.size + 1) [x0, x1, x2] 3 t rfl (by decide) HXX.out ht2 _ HRa.out HRow.out).mono ?_
                  rintro e u ⟨rfl, hwr, hb⟩
                  have HTe : Hid (t ++ vsT [x0, x1, x2] = t ++ vX x0 ++ vX x1 ++ vX x2) := by show _ = _; simp only [vsT, ba_nil, ba_assoc]
                  have HR2 : Hid (WrX u k (t ++ vX x0 ++ vX x1 ++ vX x2)) := by show WrX _ _ _; rw [← HTe.out]; exact hwr
                  have HW2 : Hid (Below w.heap.size w u) := HWa.out.trans (hb.mono (by omega))
                  have HP2 : Hid (u.heap[w.heap.size]? = some (.cells #[.slice q0 n0 c0, .slice q1 n1 c1, .slice q2 n2 c2, .slice (some ⟨g, off, none⟩) n3 c3, .slice q4 n4 c4] 30)) := (hb.block _ hwk).trans HPa.out
                  have HT' : Hid (t ++ vX x0 ++ vX x1 ++ vX x2 = tC X ++ vX X.U.length ++ uT (X.U.take (j + 1))) := by show _ = _; rw [HTJ.out, HT.out]; simp only [ba_assoc]
                  have hts : (t ++ vX x0 ++ vX x1 ++ vX x2).size ≤ 100000 + 4000 * (j + 1) := by rw [ba_size, ba_size, ba_size]; omega
                  clear hwr hb HRa HWa HPa HRow HT HTJ HTe HXX kp cf0 cf1 cf2 hkl
                  go_wp2
                  go_roundg (gk - 1)
                  case measure => omega
                  case rel => exact ⟨j + 1, _, by omega, by go_num, hts, HT', HR2, HW2, HP2⟩
                · have hj12 := HN.out.u.1
                  have hln := HL3.out
                  have HT2 : Hid (t = tC X ++ vX X.U.length ++ uT X.U) := by
                    have h5 := HT.out
                    rw [List.take_of_length_le (by omega)] at h5
                    exact h5
                  have ht2 : t.size ≤ 132000 := by omega
                  clear HT ht hln hj12
                  go_wp2
                  clear kp
                  obtain ⟨t0, hT0⟩ : ∃ t0, t = t0 := ⟨_, rfl⟩
                  subst hT0
                  have HT : Hid (t = tD X) := by show _ = _; rw [HT2.out]; rfl
                  have ht0 : t.size ≤ 140000 := by omega
                  clear HT2 ht2
                  go_loopg [105] n4 (fun gk iv wr => ∃ (j : Nat) (t : ByteArray), j + gk = n4 ∧ iv = .int .i64 j ∧ t.size ≤ 140000 + 2000 * j ∧ Hid (t = tD X ++ sT (X.S.take j)) ∧ Hid (WrX wr k t) ∧ Hid (Below w.heap.size w wr) ∧ Hid (wr.heap[w.heap.size]? = some (.cells #[.slice q0 n0 c0, .slice q1 n1 c1, .slice q2 n2 c2, .slice q3 n3 c3, .slice q4 n4 c4] 30)))
                  case atStart => exact ⟨0, t, by omega, rfl, by omega, by show _ = _; rw [HT.out, List.take_zero, sT, ba_nil], HR, HW, HP⟩
                  case round =>
                    clear HW HP HR HT ht0
                    try clear hlt
                    clear t
                    obtain ⟨j, t, hj, rfl, ht, HT, HR, HW, HP⟩ := hrel
                    have kp := boxO_cells HP.out
                    by_cases hlt : j < n4
                    · have hjl : j < X.S.length := by have := HL4.out; omega
                      have hj12 := HN.out.s.1
                      have hln := HL4.out
                      have ht2 : t.size ≤ 200000 := by omega
                      have hjb : j ≤ 100 := by omega
                      have hkl := HR.out.lt
                      obtain ⟨g, off, ha, hc⟩ := HR4.out (by omega)
                      have hgl : g < w.heap.size := World.block_lt_of_cell? w ⟨g, off + j, none⟩ (hc j hjl)
                      subst ha
                      have cf0 := (HW.out.cell (p := ⟨g, off + j, none⟩) hgl).trans (hc j hjl)
                      have hsz := HN.out.s.2 j hjl
                      have HTK : Hid (sT (X.S.take (j + 1)) = sT (X.S.take j) ++ vX (X.S[j]).size ++ X.S[j]) := sT_take hjl
                      obtain ⟨x0, e0⟩ : ∃ z, X.S[j] = z := ⟨_, rfl⟩
                      rw [e0] at cf0 hsz
                      have HTJ : Hid (sT (X.S.take (j + 1)) = sT (X.S.take j) ++ vX x0.size ++ x0) := by have := HTK.out; rw [e0] at this; exact this
                      have z0 := vX_size (n := (x0.size : Int)) (by omega) (by omega)
                      clear hc hjl e0 HTK hln hj12
                      go_wp2_with fail
                      refine (codeI k x0 t hsz ht2 _ HR.out).mono ?_
                      rintro e u ⟨rfl, hwr, hb⟩
                      have HR2 : Hid (WrX u k (t ++ vX x0.size ++ x0)) := hwr
                      have HW2 : Hid (Below w.heap.size w u) := HW.out.trans (hb.mono (by omega))
                      have HP2 : Hid (u.heap[w.heap.size]? = some (.cells #[.slice q0 n0 c0, .slice q1 n1 c1, .slice q2 n2 c2, .slice q3 n3 c3, .slice (some ⟨g, off, none⟩) n4 c4] 30)) := (hb.block _ hwk).trans HP.out
                      have HT' : Hid (t ++ vX x0.size ++ x0 = tD X ++ sT (X.S.take (j + 1))) := by show _ = _; rw [HTJ.out, HT.out]; simp only [ba_assoc]
                      have hts : (t ++ vX x0.size ++ x0).size ≤ 140000 + 2000 * (j + 1) := by rw [ba_size, ba_size]; omega
                      clear hwr hb HR HW HP HT HTJ kp cf0 hkl
                      go_wp2
                      go_roundg (gk - 1)
                      case measure => omega
                      case rel => exact ⟨j + 1, _, by omega, by go_num, hts, HT', HR2, HW2, HP2⟩
                    · have hj12 := HN.out.s.1
                      have hln := HL4.out
                      have HT2 : Hid (t = tD X ++ sT X.S) := by
                        have h5 := HT.out
                        rw [List.take_of_length_le (by omega)] at h5
                        exact h5
                      have ht2 : t.size ≤ 148000 := by omega
                      clear HT ht hln hj12
                      have htx : t = txt X := HT2.out
                      obtain ⟨v, hkv, hov⟩ := HR.out
                      rw [htx] at hov
                      obtain ⟨gv, cv, hv, hcv⟩ := own_text (txt_pos X) hov
                      subst hv
                      have hkc : wr.cell? ⟨k, 0, none⟩ = some (.slice (some ⟨gv, 0, none⟩) (txt X).size cv) := by simp [World.cell?, hkv]
                      clear HR hkv hov HT2 htx kp
                      go_wp2
                      go_ret2
                      exact ⟨rfl, HW.out⟩

theorem textI (s : SH) (X : SX) (t : ByteArray) (b : Bool) (ht : TextX X t b) (w : World) (h : RdX w s X) (hs : SmX s X) (hwf : WfU X.U) (hk : s.n0 ≤ s.c0) (hg : Hnd w) :
    Calls Tryz.prog 7 #[SetV s] w fun e w' => e = .returned (.tuple #[.string t, .bool b]) ∧ Below w.heap.size w w' := by
  rcases ht with ⟨h1, rfl, rfl⟩ | ⟨h1, rfl, rfl⟩
  · exact textI_yes s X h1 w h hs hwf hk hg
  · exact textI_no s X h1 w h hs hwf hk hg
end Go.Proofs.YtadbekhekggpkaaGreatDoor

namespace Go.Proofs.YtadbekhekggpkaaGreatDoor
open Go.RowKit Go.PlainAid
set_option linter.unusedVariables false

def unrR : PanicEntry := { v := .iface 99 (.agg #[]), recovered := true }
/-- the world behind a closure that recovered -/
def catW (w : World) (p q : Nat) : World := ((((((w.alloc (.cells #[] 99)).setCell ⟨p, 0, none⟩ (.slice none 0 0)).setCell ⟨p, 1, none⟩ (.slice none 0 0)).setCell ⟨p, 2, none⟩ (.slice none 0 0)).setCell ⟨p, 3, none⟩ (.slice none 0 0)).setCell ⟨p, 4, none⟩ (.slice none 0 0)).setCell ⟨q, 0, none⟩ (.bool false)
set_option maxRecDepth 100000 in
set_option maxHeartbeats 2000000 in
theorem catch_panicking (p q : Nat) (hpq : p ≠ q) (v0 v1 v2 v3 v4 b : Value) (w : World) (hp : w.heap[p]? = some (.cells #[v0, v1, v2, v3, v4] 30)) (hq : w.heap[q]? = some (.cells #[b] 4)) :
    CallsD Tryz.prog 57 #[.pointer (some ⟨p, 0, none⟩), .pointer (some ⟨q, 0, none⟩)] (.panicking [unr]) w fun e u' w' => e = .returned (.tuple #[]) ∧ u' = .panicking [unrR] ∧ w' = catW w p q := by
  have hta : ∀ w, (Instr.typeAssert (.iface 99 (.agg #[])) 20 99 true).run Tryz.prog w = .ok (.tuple #[.agg #[], .bool true]) w := by intro w; kernel_rfl
  have hp' : (w.alloc (.cells #[] 99)).heap[p]? = some (.cells #[v0, v1, v2, v3, v4] 30) := row_on hp ((Below.refl _ _).alloc (Nat.le_refl _) _)
  have hq' : (w.alloc (.cells #[] 99)).heap[q]? = some (.cells #[b] 4) := row_on hq ((Below.refl _ _).alloc (Nat.le_refl _) _)
  have h1 := boxO_cells hp'
  have h2 := cell_of1 hq'
  refine callsD_of_wpS Tryz.func57 rfl fun c₀ cs hu => ?_
  unfold unr at hu
  apply wpS_seq
  apply wpS_region
  simp [wpOpsS, go_sem, recoverD, hu, Tryz.ntmps57, Exit.thenS, hta]
  apply wpS_seq
  apply wpS_region
  simp [wpOpsS, go_sem, Exit.thenS]
  refine wpS_cond (t := true) (by simp [Act.eval, Array.replicate]) ?_
  simp only [if_true]
  apply wpS_region
  simp [wpOpsS, go_sem, h1, h2, bodyPostS, results, Tryz.results57]
  exact ⟨rfl, rfl⟩
set_option maxRecDepth 100000 in
set_option maxHeartbeats 2000000 in
theorem catch_idle (p q : Nat) (w : World) :
    CallsD Tryz.prog 57 #[.pointer (some ⟨p, 0, none⟩), .pointer (some ⟨q, 0, none⟩)] .returning w fun e u' w' => e = .returned (.tuple #[]) ∧ u' = .returning ∧ w' = w.alloc (.cells #[] 99) := by
  have hta : ∀ w, (Instr.typeAssert .nilIface 20 99 true).run Tryz.prog w = .ok (.tuple #[.agg #[], .bool false]) w := by intro w; kernel_rfl
  refine callsD_of_wpS Tryz.func57 rfl fun c₀ cs hu => ?_
  apply wpS_seq
  apply wpS_region
  simp [wpOpsS, go_sem, recoverD, hu, Tryz.ntmps57, Exit.thenS, hta]
  apply wpS_seq
  apply wpS_region
  simp [wpOpsS, go_sem, Exit.thenS]
  refine wpS_cond (t := false) (by simp [Act.eval, Array.replicate]) ?_
  simp only [Bool.false_eq_true, if_false]
  refine wpS_of_wp (wp_skip ?_)
  cases c₀
  simp_all [bodyPostS, results, Tryz.results57]

theorem ne_of {W : World} {B k : Nat} {s : SH} {X : SX} {cs : Array Value} {T : TypeId} (h : OwnX W B s X) (hk : W.heap[k]? = some (.cells cs T)) (hT : 48 ≠ T ∧ 50 ≠ T ∧ 52 ≠ T ∧ 54 ≠ T ∧ 9 ≠ T) : NeX k s :=
  ⟨own_far11 h.o0 hk hT.1, own_far11 h.o1 hk hT.2.1, own_far11 h.o2 hk hT.2.2.1, own_far11 h.o3 hk hT.2.2.2.1, own_far11 h.o4 hk hT.2.2.2.2⟩
theorem OwnX.mono {W : World} {B B' : Nat} {s : SH} {X : SX} (h : OwnX W B s X) (hB : B' ≤ B) : OwnX W B' s X :=
  ⟨own_mono h.o0 hB, own_mono h.o1 hB, own_mono h.o2 hB, own_mono h.o3 hB, own_mono h.o4 hB⟩
set_option maxRecDepth 100000 in
set_option maxHeartbeats 4000000 in
theorem setupIn_I (t : ByteArray) (ht : t.size ≤ 1048576) (w : World) :
    Calls Tryz.prog 20 #[.string t] w fun e w' =>
      (∃ (s : SH) (X : SX), e = .returned (.tuple #[SetV s, .bool true]) ∧ parse t = some X ∧ s.n0 ≤ s.c0 ∧ OwnX w' w.heap.size s X ∧ Below w.heap.size w w') ∨ (e = .returned (.tuple #[.agg #[.slice none 0 0, .slice none 0 0, .slice none 0 0, .slice none 0 0, .slice none 0 0], .bool false]) ∧ parse t = none ∧ Below w.heap.size w w') := by
  have hmf : ∀ (fn : Fn) (first cap : Array Value) (w : World), (Instr.makeFunc fn first cap).run Tryz.prog w = .ok (.func fn first cap) w := fun _ _ _ _ => rfl
  have e1 : (w.alloc (.cells #[.slice none 0 0, .slice none 0 0, .slice none 0 0, .slice none 0 0, .slice none 0 0] 30)).heap.size = w.heap.size + 1 := by simp
  have e2 : ((w.alloc (.cells #[.slice none 0 0, .slice none 0 0, .slice none 0 0, .slice none 0 0, .slice none 0 0] 30)).alloc (.cells #[.bool false] 4)).heap.size = w.heap.size + 1 + 1 := by simp
  have HB : Hid (Below w.heap.size w (((w.alloc (.cells #[.slice none 0 0, .slice none 0 0, .slice none 0 0, .slice none 0 0, .slice none 0 0] 30)).alloc (.cells #[.bool false] 4)).alloc (.cells #[.string t, .int .i64 0] 102))) := (((Below.refl _ _).alloc (Nat.le_refl _) _).alloc (by simp) _).alloc (by simp; omega) _
  have HZ : Hid ((((w.alloc (.cells #[.slice none 0 0, .slice none 0 0, .slice none 0 0, .slice none 0 0, .slice none 0 0] 30)).alloc (.cells #[.bool false] 4)).alloc (.cells #[.string t, .int .i64 0] 102)).heap[w.heap.size]? = some (.cells #[.slice none 0 0, .slice none 0 0, .slice none 0 0, .slice none 0 0, .slice none 0 0] 30)) := row_on (row_on (heap_new w _) ((Below.refl _ _).alloc (Nat.le_refl _) _)) ((Below.refl _ _).alloc (Nat.le_refl _) _)
  have HQ : Hid ((((w.alloc (.cells #[.slice none 0 0, .slice none 0 0, .slice none 0 0, .slice none 0 0, .slice none 0 0] 30)).alloc (.cells #[.bool false] 4)).alloc (.cells #[.string t, .int .i64 0] 102)).heap[w.heap.size + 1]? = some (.cells #[.bool false] 4)) := by
    have h1 := heap_new (w.alloc (.cells #[.slice none 0 0, .slice none 0 0, .slice none 0 0, .slice none 0 0, .slice none 0 0] 30)) (.cells #[.bool false] 4)
    rw [e1] at h1
    exact row_on h1 ((Below.refl _ _).alloc (Nat.le_refl _) _)
  have HC : Hid (RdrX (((w.alloc (.cells #[.slice none 0 0, .slice none 0 0, .slice none 0 0, .slice none 0 0, .slice none 0 0] 30)).alloc (.cells #[.bool false] 4)).alloc (.cells #[.string t, .int .i64 0] 102)) (w.heap.size + 1 + 1) t 0) := by
    have h1 := heap_new ((w.alloc (.cells #[.slice none 0 0, .slice none 0 0, .slice none 0 0, .slice none 0 0, .slice none 0 0] 30)).alloc (.cells #[.bool false] 4)) (.cells #[.string t, .int .i64 0] 102)
    rw [e2] at h1
    exact h1
  have HSZ : Hid ((((w.alloc (.cells #[.slice none 0 0, .slice none 0 0, .slice none 0 0, .slice none 0 0, .slice none 0 0] 30)).alloc (.cells #[.bool false] 4)).alloc (.cells #[.string t, .int .i64 0] 102)).heap.size = w.heap.size + 1 + 1 + 1) := by show _ = _; simp
  clear e1 e2
  unfold SetV
  go_enter_defers Tryz.func20, Tryz.ntmps20
  go_wp2_with fail
  refine (setupI (w.heap.size + 1 + 1) t ht _ HC.out).mono ?_
  rintro e w1 (⟨s, X, rfl, hP, hcap, ho, hg⟩ | ⟨rfl, hP, hg⟩)
  · obtain ⟨q0, n0, c0, q1, n1, c1, q2, n2, c2, q3, n3, c3, q4, n4, c4⟩ := s
    have HZ1 : Hid (w1.heap[w.heap.size]? = some (.cells #[.slice none 0 0, .slice none 0 0, .slice none 0 0, .slice none 0 0, .slice none 0 0] 30)) := row_gr13 hg HZ.out (by omega)
    have HQ1 : Hid (w1.heap[w.heap.size + 1]? = some (.cells #[.bool false] 4)) := row_gr13 hg HQ.out (by omega)
    have HB1 : Hid (Below w.heap.size w w1) := HB.out.trans ⟨hg.os, hg.tape, hg.output, hg.size, fun i hi => hg.block i (by rw [HSZ.out]; omega) (fun e => by cases e; omega)⟩
    have HO1 : Hid (OwnX w1 w.heap.size ⟨q0, n0, c0, q1, n1, c1, q2, n2, c2, q3, n3, c3, q4, n4, c4⟩ X) := ho.mono (by rw [HSZ.out]; omega)
    have HPX : Hid (parse t = some X ∧ n0 ≤ c0) := ⟨hP, hcap⟩
    have kz := boxO_cells HZ1.out
    have kq := cell_of1 HQ1.out
    clear hP hcap ho hg HZ HQ HB HC HSZ
    unfold SetV
    dsimp only
    have HR2 : Hid (((((((w1.setCell ⟨w.heap.size, 0, none⟩ (.slice q0 n0 c0)).setCell ⟨w.heap.size, 1, none⟩ (.slice q1 n1 c1)).setCell ⟨w.heap.size, 2, none⟩ (.slice q2 n2 c2)).setCell ⟨w.heap.size, 3, none⟩ (.slice q3 n3 c3)).setCell ⟨w.heap.size, 4, none⟩ (.slice q4 n4 c4)).setCell ⟨w.heap.size + 1, 0, none⟩ (.bool true)).heap[w.heap.size]? = some (.cells #[.slice q0 n0 c0, .slice q1 n1 c1, .slice q2 n2 c2, .slice q3 n3 c3, .slice q4 n4 c4] 30)) := set_far (set_row5 (set_row5 (set_row5 (set_row5 (set_row5 HZ1.out 0 _) 1 _) 2 _) 3 _) 4 _) (by omega)
    have HQ2 : Hid (((((((w1.setCell ⟨w.heap.size, 0, none⟩ (.slice q0 n0 c0)).setCell ⟨w.heap.size, 1, none⟩ (.slice q1 n1 c1)).setCell ⟨w.heap.size, 2, none⟩ (.slice q2 n2 c2)).setCell ⟨w.heap.size, 3, none⟩ (.slice q3 n3 c3)).setCell ⟨w.heap.size, 4, none⟩ (.slice q4 n4 c4)).setCell ⟨w.heap.size + 1, 0, none⟩ (.bool true)).heap[w.heap.size + 1]? = some (.cells #[.bool true] 4)) := set_row5 (set_far5 HQ1.out (by omega)) 0 _
    have HB2 : Hid (Below w.heap.size w ((((((w1.setCell ⟨w.heap.size, 0, none⟩ (.slice q0 n0 c0)).setCell ⟨w.heap.size, 1, none⟩ (.slice q1 n1 c1)).setCell ⟨w.heap.size, 2, none⟩ (.slice q2 n2 c2)).setCell ⟨w.heap.size, 3, none⟩ (.slice q3 n3 c3)).setCell ⟨w.heap.size, 4, none⟩ (.slice q4 n4 c4)).setCell ⟨w.heap.size + 1, 0, none⟩ (.bool true))) := (((((HB1.out.setCell (Nat.le_refl _) _).setCell (Nat.le_refl _) _).setCell (Nat.le_refl _) _).setCell (Nat.le_refl _) _).setCell (Nat.le_refl _) _).setCell (by simp) _
    have HO2 : Hid (OwnX ((((((w1.setCell ⟨w.heap.size, 0, none⟩ (.slice q0 n0 c0)).setCell ⟨w.heap.size, 1, none⟩ (.slice q1 n1 c1)).setCell ⟨w.heap.size, 2, none⟩ (.slice q2 n2 c2)).setCell ⟨w.heap.size, 3, none⟩ (.slice q3 n3 c3)).setCell ⟨w.heap.size, 4, none⟩ (.slice q4 n4 c4)).setCell ⟨w.heap.size + 1, 0, none⟩ (.bool true)) w.heap.size ⟨q0, n0, c0, q1, n1, c1, q2, n2, c2, q3, n3, c3, q4, n4, c4⟩ X) := (HO1.out.put5 (ne_of HO1.out HZ1.out (by decide))).set (set_far5 HQ1.out (by omega)) (by decide)
    clear HZ1 HQ1 HB1 HO1
    go_wp2
    obtain ⟨w2, hw2⟩ : ∃ x, ((((((w1.setCell ⟨w.heap.size, 0, none⟩ (.slice q0 n0 c0)).setCell ⟨w.heap.size, 1, none⟩ (.slice q1 n1 c1)).setCell ⟨w.heap.size, 2, none⟩ (.slice q2 n2 c2)).setCell ⟨w.heap.size, 3, none⟩ (.slice q3 n3 c3)).setCell ⟨w.heap.size, 4, none⟩ (.slice q4 n4 c4)).setCell ⟨w.heap.size + 1, 0, none⟩ (.bool true)) = x := ⟨_, rfl⟩
    rw [hw2] at HR2 HQ2 HB2 HO2 ⊢
    clear hw2 kz kq
    refine leaves_cons (f := 57) (args := #[.pointer (some ⟨w.heap.size, 0, none⟩), .pointer (some ⟨w.heap.size + 1, 0, none⟩)]) (by simp) (by simp [go_sem]) ?_
    refine (catch_idle w.heap.size (w.heap.size + 1) _).mono ?_
    rintro e u' w3 ⟨rfl, rfl, hw3⟩
    have hal : Below w2.heap.size w2 w3 := by rw [hw3]; exact (Below.refl _ _).alloc (Nat.le_refl _) _
    have k3 := boxO_cells (row_on HR2.out hal)
    have k4 := cell_of1 (row_on HQ2.out hal)
    refine ⟨.tuple #[.agg #[.slice q0 n0 c0, .slice q1 n1 c1, .slice q2 n2 c2, .slice q3 n3 c3, .slice q4 n4 c4], .bool true], ?_, .inl ⟨⟨q0, n0, c0, q1, n1, c1, q2, n2, c2, q3, n3, c3, q4, n4, c4⟩, X, rfl, HPX.out.1, HPX.out.2, HO2.out.bel hal, bel_on (Nat.le_refl _) HB2.out hal⟩⟩
    simp [results, Tryz.results20, go_sem, k3, k4]
  · have HZ1 : Hid (w1.heap[w.heap.size]? = some (.cells #[.slice none 0 0, .slice none 0 0, .slice none 0 0, .slice none 0 0, .slice none 0 0] 30)) := row_gr13 hg HZ.out (by omega)
    have HQ1 : Hid (w1.heap[w.heap.size + 1]? = some (.cells #[.bool false] 4)) := row_gr13 hg HQ.out (by omega)
    have HB1 : Hid (Below w.heap.size w w1) := HB.out.trans ⟨hg.os, hg.tape, hg.output, hg.size, fun i hi => hg.block i (by rw [HSZ.out]; omega) (fun e => by cases e; omega)⟩
    have HPX : Hid (parse t = none) := hP
    clear hP hg HZ HQ HB HC HSZ
    go_wp2
    refine leaves_cons (f := 57) (args := #[.pointer (some ⟨w.heap.size, 0, none⟩), .pointer (some ⟨w.heap.size + 1, 0, none⟩)]) (by simp) (by simp [go_sem]) ?_
    refine (catch_panicking w.heap.size (w.heap.size + 1) (by omega) _ _ _ _ _ _ _ HZ1.out HQ1.out).mono ?_
    rintro e u' w3 ⟨rfl, rfl, hw3⟩
    have hal : (w1.alloc (.cells #[] 99)).heap[w.heap.size]? = some (.cells #[.slice none 0 0, .slice none 0 0, .slice none 0 0, .slice none 0 0, .slice none 0 0] 30) := row_on HZ1.out ((Below.refl _ _).alloc (Nat.le_refl _) _)
    have haq : (w1.alloc (.cells #[] 99)).heap[w.heap.size + 1]? = some (.cells #[.bool false] 4) := row_on HQ1.out ((Below.refl _ _).alloc (Nat.le_refl _) _)
    have k3 := boxO_cells (show w3.heap[w.heap.size]? = some (.cells #[.slice none 0 0, .slice none 0 0, .slice none 0 0, .slice none 0 0, .slice none 0 0] 30) by rw [hw3]; exact set_far (set_row5 (set_row5 (set_row5 (set_row5 (set_row5 hal 0 _) 1 _) 2 _) 3 _) 4 _) (by omega))
    have k4 := cell_of1 (show w3.heap[w.heap.size + 1]? = some (.cells #[.bool false] 4) by rw [hw3]; exact set_row5 (set_far5 haq (by omega)) 0 _)
    have hb3 : Below w.heap.size w w3 := by rw [hw3]; exact (((((((HB1.out.alloc HB1.out.size _).setCell (Nat.le_refl _) _).setCell (Nat.le_refl _) _).setCell (Nat.le_refl _) _).setCell (Nat.le_refl _) _).setCell (Nat.le_refl _) _).setCell (by simp) _)
    refine ⟨.tuple #[.agg #[.slice none 0 0, .slice none 0 0, .slice none 0 0, .slice none 0 0, .slice none 0 0], .bool false], ?_, .inr ⟨rfl, HPX.out, hb3⟩⟩
    simp [results, Tryz.results20, go_sem, k3, k4]
end Go.Proofs.YtadbekhekggpkaaGreatDoor
