/-
  FnMenus over bytes that are few enough.
-/
import Derived.Test.YtjaimcmnndejgaaDrawMn
import Derived.Test.YtjaimcmnndejgaaRow
import Derived.Test.YtjaimcmnndejgaaMnI
import Derived.Test.YtjaimcmnndejgaaMnW
import Derived.Deep.DeepCutAuto
namespace Go.Proofs.Ytjaimcmnndejgaa
open Go.RowKit Go.PlainAid
set_option linter.unusedVariables false
set_option linter.unusedSimpArgs false

theorem OwnA.asE {w : World} {B g n c : Nat} {l : List Od4} (h : OwnA w B (some ⟨g, 0, none⟩) n c l) : OwnE w B g n c l := h
theorem OwnE.cell4 {w : World} {B g n c : Nat} {l : List Od4} (h : OwnE w B g n c l) (j : Nat) (hj : j < l.length) : w.cell? ⟨g, j * 4, none⟩ = some (.int .i64 l[j].1) ∧ w.cell? ⟨g, j * 4 + 1, none⟩ = some (.int .i64 l[j].2.1) ∧ w.cell? ⟨g, j * 4 + 2, none⟩ = some (.int .i64 l[j].2.2.1) ∧ w.cell? ⟨g, j * 4 + 3, none⟩ = some (.int .i64 l[j].2.2.2) := by
  obtain ⟨g', off, e, hc⟩ := h.rd (by omega)
  rcases h.2 with ⟨hv, _⟩ | ⟨g2, cap, cur, hv, _, hh, hnc, _, _, htk⟩
  · cases hv
  have hl := h.len
  obtain ⟨a0, a1, a2, a3⟩ := odV_at l j hj
  refine ⟨?_, ?_, ?_, ?_⟩
  · rw [World.ownsRow.cellAt h (j * 4) (by omega)]; exact a0
  · rw [World.ownsRow.cellAt h (j * 4 + 1) (by omega)]; exact a1
  · rw [World.ownsRow.cellAt h (j * 4 + 2) (by omega)]; exact a2
  · rw [World.ownsRow.cellAt h (j * 4 + 3) (by omega)]; exact a3
theorem own_not_menu {w : World} {B g n c : Nat} {l : List Od4} {x0 x1 x2 x3 x4 : Value} (h : OwnE w B g n c l) (hr : w.heap[g]? = some (.cells #[x0, x1, x2, x3, x4] 26)) : False := by
  rcases h.2 with ⟨hv, _⟩ | ⟨g2, cap, cur, hv, _, hh, _⟩
  · cases hv
  · cases hv
    rw [hr] at hh
    cases hh
theorem txt_take {ks : List UInt8} {K : ByteArray} (h : (⟨ks.toArray⟩ : ByteArray) = K) (k : Nat) (hk : k ≤ ks.length) : K.extract 0 k = ⟨(ks.take k).toArray⟩ := by
  subst h
  apply ByteArray.ext
  simp [ByteArray.data_extract]
theorem txt_drop {ks : List UInt8} {K : ByteArray} (h : (⟨ks.toArray⟩ : ByteArray) = K) (k : Nat) (hk : k ≤ ks.length) : K.extract k K.size = ⟨(ks.drop k).toArray⟩ := by
  subst h
  apply ByteArray.ext
  simp [ByteArray.data_extract, ByteArray.size]
  exact List.take_of_length_le (by simp)
set_option maxRecDepth 100000 in
set_option maxHeartbeats 16000000 in
theorem menus_in (a : Option Addr) (len cap : Nat) (hb : len ≤ 1048576) (w : World) (hcode : CodeOk w w.heap.size a len) :
    Calls Try.prog 3 #[.slice a len cap] w fun e w' => e = .returned (.bool true) ∧ Below w.heap.size w w' := by
  have HC : Hid (CodeOk w w.heap.size a len) := hcode
  clear hcode
  have FW_1 : Hid (Below w.heap.size w (w)) := Below.refl _ _
  go_enter Try.func3, Try.ntmps3
  go_wp2_with fail
  refine (big5 a len cap (by omega) _).mono ?_
  rintro e w0 ⟨rfl, hw0⟩
  obtain rfl : w = w0 := hw0.symm
  clear hw0
  rw [decide_eq_false (by omega)]
  go_wp2_with fail
  refine (drawKeys a len cap _ HC.out).mono ?_
  rintro e w1 ⟨K, rfl, hk16, hb1⟩
  have N_2 : Hid ((w).heap.size ≤ (w1).heap.size) := (hb1).size
  have FW_3 : Hid (Below w.heap.size w (w1)) := bel_on (Nat.le_refl _) FW_1.out (hb1)
  clear FW_1
  clear hb1
  obtain ⟨ks, hks, hkl⟩ := txt_of K
  have HKS : Hid ((⟨ks.toArray⟩ : ByteArray) = K) := hks.symm
  have hks1 : ks.length ≤ 1048576 := by omega
  obtain ⟨⟨M, l⟩, hr⟩ : ∃ R, allM newM ks = R := ⟨_, rfl⟩
  obtain ⟨q, hq⟩ : ∃ q, l.length = q := ⟨_, rfl⟩
  have HR : Hid (allM newM ks = (M, l)) := hr
  have HQ : Hid (l.length = q) := hq
  have hq16 : q ≤ 16 := by have h := allM_len ks newM; rw [hr] at h; simp at h; omega
  clear hr hq hks
  go_wp2_with fail
  refine (menunewI _).mono ?_
  rintro e w2 ⟨rfl, hb2⟩
  have N_4 : Hid ((w1).heap.size ≤ (w2).heap.size) := (hb2).size
  have FW_5 : Hid (Below w.heap.size w (w2)) := bel_on (Nat.le_refl _) FW_3.out (hb2)
  clear FW_3
  clear hb2
  go_wp2_with fail
  refine (pressAllI' newM GdM.new ks K HKS.out M l q HR.out HQ.out hks1 _).mono ?_
  rintro e w3 ⟨g3, c3, rfl, hown3, hb3⟩
  have N_6 : Hid ((w2).heap.size ≤ (w3).heap.size) := (hb3).size
  have FW_7 : Hid (Below w.heap.size w (w3)) := bel_on (Nat.le_refl _) FW_5.out (hb3)
  clear FW_5
  have FO5_8 : Hid (OwnA (w3) ((w2).heap.size) g3 q c3 l) := hown3
  clear hown3 hb3
  have N_9 : Hid ((w3).heap.size ≤ (w3.alloc (.cells #[.int .i64 M.a, .bool M.b, .int .i64 M.n, .int .i64 M.d, .string ⟨M.s.toArray⟩] 26)).heap.size) := ((Below.refl (w3).heap.size (w3)).alloc (Nat.le_refl _) (.cells #[.int .i64 M.a, .bool M.b, .int .i64 M.n, .int .i64 M.d, .string ⟨M.s.toArray⟩] 26)).size
  have FW_10 : Hid (Below w.heap.size w (w3.alloc (.cells #[.int .i64 M.a, .bool M.b, .int .i64 M.n, .int .i64 M.d, .string ⟨M.s.toArray⟩] 26))) := bel_on (Nat.le_refl _) FW_7.out ((Below.refl (w3).heap.size (w3)).alloc (Nat.le_refl _) (.cells #[.int .i64 M.a, .bool M.b, .int .i64 M.n, .int .i64 M.d, .string ⟨M.s.toArray⟩] 26))
  clear FW_7
  have FO5_11 : Hid (OwnA (w3.alloc (.cells #[.int .i64 M.a, .bool M.b, .int .i64 M.n, .int .i64 M.d, .string ⟨M.s.toArray⟩] 26)) ((w2).heap.size) g3 q c3 l) := FO5_8.out.on ((Below.refl (w3).heap.size (w3)).alloc (Nat.le_refl _) (.cells #[.int .i64 M.a, .bool M.b, .int .i64 M.n, .int .i64 M.d, .string ⟨M.s.toArray⟩] 26))
  clear FO5_8
  have N_12 : Hid (w3.heap.size < (w3.alloc (.cells #[.int .i64 M.a, .bool M.b, .int .i64 M.n, .int .i64 M.d, .string ⟨M.s.toArray⟩] 26)).heap.size) := by simp [Hid]
  have Fb4_13 : Hid ((w3.alloc (.cells #[.int .i64 M.a, .bool M.b, .int .i64 M.n, .int .i64 M.d, .string ⟨M.s.toArray⟩] 26)).heap[w3.heap.size]? = some (.cells #[.int .i64 M.a, .bool M.b, .int .i64 M.n, .int .i64 M.d, .string ⟨M.s.toArray⟩] 26)) := heap_new w3 _
  unfold mnV
  go_wp2_with fail
  refine (menunewS _).mono ?_
  rintro e w4 ⟨rfl, hb4⟩
  have N_14 : Hid ((w3.alloc (.cells #[.int .i64 M.a, .bool M.b, .int .i64 M.n, .int .i64 M.d, .string ⟨M.s.toArray⟩] 26)).heap.size ≤ (w4).heap.size) := (hb4).size
  have FW_15 : Hid (Below w.heap.size w (w4)) := bel_on (Nat.le_refl _) FW_10.out (hb4)
  have Fb4_16 : Hid ((w4).heap[w3.heap.size]? = some (.cells #[.int .i64 M.a, .bool M.b, .int .i64 M.n, .int .i64 M.d, .string ⟨M.s.toArray⟩] 26)) := row_on Fb4_13.out (hb4)
  clear FW_10 Fb4_13
  have FO5_17 : Hid (OwnA (w4) ((w2).heap.size) g3 q c3 l) := FO5_11.out.on (hb4)
  clear FO5_11
  clear hb4
  go_wp2_with fail
  refine (pressAllS' newM ks K HKS.out M l q HR.out HQ.out hks1 _).mono ?_
  rintro e w5 ⟨g5, c5, rfl, hown5, hb5⟩
  have N_18 : Hid ((w4).heap.size ≤ (w5).heap.size) := (hb5).size
  have FW_19 : Hid (Below w.heap.size w (w5)) := bel_on (Nat.le_refl _) FW_15.out (hb5)
  have Fb4_20 : Hid ((w5).heap[w3.heap.size]? = some (.cells #[.int .i64 M.a, .bool M.b, .int .i64 M.n, .int .i64 M.d, .string ⟨M.s.toArray⟩] 26)) := row_on Fb4_16.out (hb5)
  clear FW_15 Fb4_16
  have FO5_21 : Hid (OwnA (w5) ((w2).heap.size) g3 q c3 l) := FO5_17.out.on (hb5)
  clear FO5_17
  have N_22 : Hid ((w4).heap.size ≤ g5 ∧ g5 < w5.heap.size) := ⟨hown5.ge, hown5.lt⟩
  have FO7_23 : Hid (OwnE (w5) ((w4).heap.size) g5 q c5 l) := hown5
  clear hown5 hb5
  have N_24 : Hid ((w5).heap.size ≤ (w5.alloc (.cells #[.int .i64 M.a, .bool M.b, .int .i64 M.n, .int .i64 M.d, .string ⟨M.s.toArray⟩] 26)).heap.size) := ((Below.refl (w5).heap.size (w5)).alloc (Nat.le_refl _) (.cells #[.int .i64 M.a, .bool M.b, .int .i64 M.n, .int .i64 M.d, .string ⟨M.s.toArray⟩] 26)).size
  have FW_25 : Hid (Below w.heap.size w (w5.alloc (.cells #[.int .i64 M.a, .bool M.b, .int .i64 M.n, .int .i64 M.d, .string ⟨M.s.toArray⟩] 26))) := bel_on (Nat.le_refl _) FW_19.out ((Below.refl (w5).heap.size (w5)).alloc (Nat.le_refl _) (.cells #[.int .i64 M.a, .bool M.b, .int .i64 M.n, .int .i64 M.d, .string ⟨M.s.toArray⟩] 26))
  have Fb4_26 : Hid ((w5.alloc (.cells #[.int .i64 M.a, .bool M.b, .int .i64 M.n, .int .i64 M.d, .string ⟨M.s.toArray⟩] 26)).heap[w3.heap.size]? = some (.cells #[.int .i64 M.a, .bool M.b, .int .i64 M.n, .int .i64 M.d, .string ⟨M.s.toArray⟩] 26)) := row_on Fb4_20.out ((Below.refl (w5).heap.size (w5)).alloc (Nat.le_refl _) (.cells #[.int .i64 M.a, .bool M.b, .int .i64 M.n, .int .i64 M.d, .string ⟨M.s.toArray⟩] 26))
  clear FW_19 Fb4_20
  have FO5_27 : Hid (OwnA (w5.alloc (.cells #[.int .i64 M.a, .bool M.b, .int .i64 M.n, .int .i64 M.d, .string ⟨M.s.toArray⟩] 26)) ((w2).heap.size) g3 q c3 l) := FO5_21.out.on ((Below.refl (w5).heap.size (w5)).alloc (Nat.le_refl _) (.cells #[.int .i64 M.a, .bool M.b, .int .i64 M.n, .int .i64 M.d, .string ⟨M.s.toArray⟩] 26))
  clear FO5_21
  have FO7_28 : Hid (OwnE (w5.alloc (.cells #[.int .i64 M.a, .bool M.b, .int .i64 M.n, .int .i64 M.d, .string ⟨M.s.toArray⟩] 26)) ((w4).heap.size) g5 q c5 l) := FO7_23.out.on ((Below.refl (w5).heap.size (w5)).alloc (Nat.le_refl _) (.cells #[.int .i64 M.a, .bool M.b, .int .i64 M.n, .int .i64 M.d, .string ⟨M.s.toArray⟩] 26))
  clear FO7_23
  have N_29 : Hid (w5.heap.size < (w5.alloc (.cells #[.int .i64 M.a, .bool M.b, .int .i64 M.n, .int .i64 M.d, .string ⟨M.s.toArray⟩] 26)).heap.size) := by simp [Hid]
  have Fb6_30 : Hid ((w5.alloc (.cells #[.int .i64 M.a, .bool M.b, .int .i64 M.n, .int .i64 M.d, .string ⟨M.s.toArray⟩] 26)).heap[w5.heap.size]? = some (.cells #[.int .i64 M.a, .bool M.b, .int .i64 M.n, .int .i64 M.d, .string ⟨M.s.toArray⟩] 26)) := heap_new w5 _
  unfold mnV
  go_wp2_with fail
  refine (places7 w.heap.size a len cap _ (code_below HC.out FW_25.out) FW_25.out.size).mono ?_
  rintro e w6 ⟨gp, cp, p0, p1, p2, p3, rfl, hp0, _, _, _, hgp, cp0, _, _, _, _, hb6⟩
  have N_31 : Hid ((w5.alloc (.cells #[.int .i64 M.a, .bool M.b, .int .i64 M.n, .int .i64 M.d, .string ⟨M.s.toArray⟩] 26)).heap.size ≤ (w6).heap.size) := (hb6).size
  have FW_32 : Hid (Below w.heap.size w (w6)) := bel_on (Nat.le_refl _) FW_25.out (hb6)
  have Fb4_33 : Hid ((w6).heap[w3.heap.size]? = some (.cells #[.int .i64 M.a, .bool M.b, .int .i64 M.n, .int .i64 M.d, .string ⟨M.s.toArray⟩] 26)) := row_on Fb4_26.out (hb6)
  have Fb6_34 : Hid ((w6).heap[w5.heap.size]? = some (.cells #[.int .i64 M.a, .bool M.b, .int .i64 M.n, .int .i64 M.d, .string ⟨M.s.toArray⟩] 26)) := row_on Fb6_30.out (hb6)
  clear FW_25 Fb4_26 Fb6_30
  have FO5_35 : Hid (OwnA (w6) ((w2).heap.size) g3 q c3 l) := FO5_27.out.on (hb6)
  clear FO5_27
  have FO7_36 : Hid (OwnE (w6) ((w4).heap.size) g5 q c5 l) := FO7_28.out.on (hb6)
  clear FO7_28
  clear hb6 HC
  obtain ⟨k, hk⟩ : ∃ k : Nat, p0 % ((K.size : Int) + 1) = (k : Int) := ⟨(p0 % ((K.size : Int) + 1)).toNat, by rw [Int.toNat_of_nonneg (Int.emod_nonneg _ (by omega))]⟩
  have hkk : (k : Int) ≤ K.size := by have := Int.emod_lt_of_pos p0 (show (0 : Int) < (K.size : Int) + 1 by omega); omega
  have qm : p0.tmod ((K.size : Int) + 1) = (k : Int) := by rw [Int.tmod_eq_emod_of_nonneg hp0.1]; exact hk
  have qa : IntKind.i64.wrap ((K.size : Int) + 1) = (K.size : Int) + 1 := wrap_in (by omega) (by omega)
  have qz : ¬ ((K.size : Int) + 1 = 0) := by omega
  have hkn : k ≤ K.size := by omega
  have hkl2 : k ≤ ks.length := by omega
  obtain ⟨⟨Ma, La⟩, hra⟩ : ∃ R, allM newM (ks.take k) = R := ⟨_, rfl⟩
  obtain ⟨⟨Mb, Lb⟩, hrb⟩ : ∃ R, allM Ma (ks.drop k) = R := ⟨_, rfl⟩
  obtain ⟨qa1, hqa⟩ : ∃ q, La.length = q := ⟨_, rfl⟩
  obtain ⟨qb1, hqb⟩ : ∃ q, Lb.length = q := ⟨_, rfl⟩
  have HRA : Hid (allM newM (ks.take k) = (Ma, La)) := hra
  have HRB : Hid (allM Ma (ks.drop k) = (Mb, Lb)) := hrb
  have HQA : Hid (La.length = qa1) := hqa
  have HQB : Hid (Lb.length = qb1) := hqb
  have hsplit : (M, l) = (Mb, La ++ Lb) := by
    rw [← HR.out, ← List.take_append_drop k ks, allM_app, hra]
    dsimp only
    rw [hrb]
  obtain ⟨rfl, hl2⟩ : M = Mb ∧ l = La ++ Lb := by simpa using hsplit
  have hqs : qa1 + qb1 = q := by rw [← HQ.out, hl2, List.length_append, hqa, hqb]
  have HOKM : Hid (okM M = true) := by have h := allM_ok ks newM newM_ok; rw [HR.out] at h; exact h
  have HGA : Hid (GdM Ma) := GdM.from hra GdM.new
  have HOKA : Hid (okM Ma = true) := by have h := allM_ok (ks.take k) newM newM_ok; rw [hra] at h; exact h
  have HORD : Hid (∀ o ∈ l, OrdR o.1 o.2.1 o.2.2.1 o.2.2.2) := by have h := allM_r ks newM; rw [HR.out] at h; exact h
  have HT : Hid (K.extract 0 k = ⟨(ks.take k).toArray⟩) := txt_take HKS.out k hkl2
  have HDr : Hid (K.extract k K.size = ⟨(ks.drop k).toArray⟩) := txt_drop HKS.out k hkl2
  have hkt : (ks.take k).length ≤ 1048576 := by simp; omega
  have hkd : (ks.drop k).length ≤ 1048576 := by simp; omega
  clear hra hrb hqa hqb hsplit hl2 hk
  go_upto_region 7 with fail
  clear qm qa qz cp0
  have HW0 : Hid (Below (w6).heap.size (w6) (w6).drew) := (Below.refl _ _).drew
  go_cut [9, 10] (fun o1 o2 wc => ∃ (X : Nat) (g : Option Addr) (c : Nat), o1 = .pointer (some ⟨X, 0, none⟩) ∧ o2 = .slice g qa1 c ∧ Hid (wc.heap[X]? = some (.cells #[.int .i64 Ma.a, .bool Ma.b, .int .i64 Ma.n, .int .i64 Ma.d, .string ⟨Ma.s.toArray⟩] 26)) ∧ Hid (OwnA wc (w6).heap.size g qa1 c La) ∧ Hid (Below (w6).heap.size (w6) wc) ∧ (w6).heap.size ≤ X)
  case first =>
    refine wp_region_held_drew (S := fun w' => Below (w6).heap.size (w6) w') (by kernel_rfl) HW0.out (fun hHeld0 => ?_)
    obtain ⟨v0, hv0⟩ : ∃ v0, (w6).drew = v0 := ⟨_, rfl⟩
    rw [hv0] at HW0 hHeld0 ⊢
    clear hv0
    refine wpAnyH_take (i := 1) (v := ?_) rfl (by kernel_rfl) (by kernel_rfl) (by kernel_rfl) (fun _ _ _ h => h) (Or.inl ⟨by rfl, ?_⟩) (by assumption) ?_
    rotate_left
    · intro w_ hSw; (try dsimp only at hSw); go_simp <;> with_reducible rfl
    try simp only [Act.put, List.setIfInBounds_toArray, List.set_cons_zero, List.set_cons_succ, List.getElem_toArray, List.getElem_cons_zero, List.getElem_cons_succ]
    refine wpAnyH_take (i := 2) (v := ?_) rfl (by kernel_rfl) (by kernel_rfl) (by kernel_rfl) (fun _ _ _ h => h) (Or.inl ⟨by rfl, ?_⟩) (by assumption) ?_
    rotate_left
    · intro w_ hSw; (try dsimp only at hSw); go_simp <;> with_reducible rfl
    try simp only [Act.put, List.setIfInBounds_toArray, List.set_cons_zero, List.set_cons_succ, List.getElem_toArray, List.getElem_cons_zero, List.getElem_cons_succ]
    refine wpAnyH_take (i := 3) (v := ?_) rfl (by kernel_rfl) (by kernel_rfl) (by kernel_rfl) (fun _ _ _ h => h) (Or.inl ⟨by rfl, ?_⟩) (by assumption) ?_
    rotate_left
    · intro w_ hSw; (try dsimp only at hSw); go_simp <;> with_reducible rfl
    try simp only [Act.put, List.setIfInBounds_toArray, List.set_cons_zero, List.set_cons_succ, List.getElem_toArray, List.getElem_cons_zero, List.getElem_cons_succ]
    refine wpAnyH_ready (rs := [0, 8]) (by kernel_rfl) (by simp) ?_
    refine AllReadyH.cons rfl (fun J hJ => ?_) (AllReadyH.cons rfl (fun J hJ => ?_) AllReadyH.nil)
    · go_simp
      go_at_call 13
      refine (menunewI _).mono ?_
      rintro e v1 ⟨rfl, hbc⟩
      have HW1 : Hid (Below (w6).heap.size (w6) v1) := bel_on (Nat.le_refl _) HW0.out hbc
      unfold mnV newM
      dsimp only
      clear hbc HW0
      go_wp2_with fail
      refine hJ.out _ _ HW1.out (fun hHeld1 => ?_)
      clear hJ J hHeld0
      try simp only [Act.put, List.setIfInBounds_toArray, List.set_cons_zero, List.set_cons_succ, List.getElem_toArray, List.getElem_cons_zero, List.getElem_cons_succ]
      refine wpAnyH_ready (rs := [4, 8]) (by kernel_rfl) (by simp) ?_
      refine AllReadyH.cons rfl (fun J hJ => ?_) (AllReadyH.cons rfl (fun J hJ => ?_) AllReadyH.nil)
      · go_simp
        go_at_call 12
        refine (pressAllI' newM GdM.new (ks.take k) (K.extract 0 k) HT.out.symm Ma La qa1 HRA.out HQA.out hkt _).mono ?_
        rintro e v2 ⟨gq, cq, rfl, hoq, hbc⟩
        have hsz2 := HW1.out.size
        have HW2 : Hid (Below (w6).heap.size (w6) v2) := bel_on (Nat.le_refl _) HW1.out hbc
        have HO2 : Hid (OwnA v2 (w6).heap.size gq qa1 cq La) := hoq.mono hsz2
        unfold mnV
        (try dsimp only)
        clear hoq hbc HW1
        go_wp2_with fail
        refine hJ.out _ _ HW2.out (fun hHeld2 => ?_)
        clear hJ J hHeld1
        try simp only [Act.put, List.setIfInBounds_toArray, List.set_cons_zero, List.set_cons_succ, List.getElem_toArray, List.getElem_cons_zero, List.getElem_cons_succ]
        refine wpAnyH_take (i := 5) (v := ?_) rfl (by kernel_rfl) (by kernel_rfl) (by kernel_rfl) (fun _ _ _ h => h) (Or.inl ⟨by rfl, ?_⟩) (by assumption) ?_
        rotate_left
        · intro w_ hSw; (try dsimp only at hSw); go_simp <;> with_reducible rfl
        try simp only [Act.put, List.setIfInBounds_toArray, List.set_cons_zero, List.set_cons_succ, List.getElem_toArray, List.getElem_cons_zero, List.getElem_cons_succ]
        refine wpAnyH_take (i := 6) (v := ?_) rfl (by kernel_rfl) (by kernel_rfl) (by kernel_rfl) (fun _ _ _ h => h) (Or.inl ⟨by rfl, ?_⟩) (by assumption) ?_
        rotate_left
        · intro w_ hSw; (try dsimp only at hSw); go_simp <;> with_reducible rfl
        try simp only [Act.put, List.setIfInBounds_toArray, List.set_cons_zero, List.set_cons_succ, List.getElem_toArray, List.getElem_cons_zero, List.getElem_cons_succ]
        refine wpAnyH_take (i := 7) (v := ?_) rfl (by kernel_rfl) (by kernel_rfl) (by kernel_rfl) (fun _ _ _ h => h) (Or.inl ⟨by rfl, ?_⟩) (by assumption) ?_
        rotate_left
        · intro w_ hSw; (try dsimp only at hSw); go_simp <;> with_reducible rfl
        try simp only [Act.put, List.setIfInBounds_toArray, List.set_cons_zero, List.set_cons_succ, List.getElem_toArray, List.getElem_cons_zero, List.getElem_cons_succ]
        refine wpAnyH_ready (rs := [8]) (by kernel_rfl) (by simp) ?_
        refine AllReadyH.cons rfl (fun J hJ => ?_) AllReadyH.nil
        go_simp
        have hsz3 := HW2.out.size
        have HW3 : Hid (Below (w6).heap.size (w6) (v2.alloc (.cells #[.int .i64 0, .bool false, .int .i64 0, .int .i64 0, .string ⟨#[]⟩] 26))) := bel_on (Nat.le_refl _) HW2.out (alM _ _)
        have HO3 : Hid (OwnA (v2.alloc (.cells #[.int .i64 0, .bool false, .int .i64 0, .int .i64 0, .string ⟨#[]⟩] 26)) (w6).heap.size gq qa1 cq La) := HO2.out.on (alM _ _)
        have HX3 : Hid ((v2.alloc (.cells #[.int .i64 0, .bool false, .int .i64 0, .int .i64 0, .string ⟨#[]⟩] 26)).heap[v2.heap.size]? = some (.cells #[.int .i64 0, .bool false, .int .i64 0, .int .i64 0, .string ⟨#[]⟩] 26)) := heap_new v2 _
        refine hJ.out _ _ HW3.out (fun hHeld3 => ?_)
        clear hJ J hHeld2 HW2 HO2
        try simp only [Act.put, List.setIfInBounds_toArray, List.set_cons_zero, List.set_cons_succ, List.getElem_toArray, List.getElem_cons_zero, List.getElem_cons_succ]
        have hXg3 : v2.heap.size < (v2.alloc (.cells #[.int .i64 0, .bool false, .int .i64 0, .int .i64 0, .string ⟨#[]⟩] 26)).heap.size := by simp
        generalize v2.alloc (.cells #[.int .i64 0, .bool false, .int .i64 0, .int .i64 0, .string ⟨#[]⟩] 26) = v3 at *
        generalize v2.heap.size = X at *
        refine wpAnyH_ready (rs := [9]) (by kernel_rfl) (by simp) ?_
        refine AllReadyH.cons rfl (fun J hJ => ?_) AllReadyH.nil
        refine storeM_any rfl rfl _ _ _ rfl rfl X (Ma.a) (Ma.b) (Ma.n) (Ma.d) (⟨Ma.s.toArray⟩) rfl rfl HX3.out ?_
        intro v9 hput
        have HW9 : Hid (Below (w6).heap.size (w6) v9) := hput.2.2.2 _ _ (by omega) HW3.out
        have HX9 : Hid (v9.heap[X]? = some (.cells #[.int .i64 Ma.a, .bool Ma.b, .int .i64 Ma.n, .int .i64 Ma.d, .string ⟨Ma.s.toArray⟩] 26)) := hput.1
        have HO9 : Hid (OwnA v9 (w6).heap.size gq qa1 cq La) := HO3.out.put hput HX3.out
        clear hput HW3 HX3 HO3
        refine hJ.out _ _ HW9.out (fun hHeld9 => ?_)
        clear hJ J hHeld3
        try simp only [Act.put, List.setIfInBounds_toArray, List.set_cons_zero, List.set_cons_succ, List.getElem_toArray, List.getElem_cons_zero, List.getElem_cons_succ]
        refine wpAnyH_take (i := 10) (v := ?_) rfl (by kernel_rfl) (by kernel_rfl) (by kernel_rfl) (fun _ _ _ h => h) (Or.inl ⟨by rfl, ?_⟩) (by assumption) ?_
        rotate_left
        · intro w_ hSw; (try dsimp only at hSw); go_simp <;> with_reducible rfl
        try simp only [Act.put, List.setIfInBounds_toArray, List.set_cons_zero, List.set_cons_succ, List.getElem_toArray, List.getElem_cons_zero, List.getElem_cons_succ]
        clear hHeld9
        refine wpAnyH_done (by kernel_rfl) ?_ _
        (try go_wp2_with fail)
        go_meet
        exact ⟨X, gq, cq, rfl, rfl, HX9, HO9, HW9, by omega⟩
      · go_simp
        have hsz2 := HW1.out.size
        have HW2 : Hid (Below (w6).heap.size (w6) (v1.alloc (.cells #[.int .i64 0, .bool false, .int .i64 0, .int .i64 0, .string ⟨#[]⟩] 26))) := bel_on (Nat.le_refl _) HW1.out (alM _ _)
        have HX2 : Hid ((v1.alloc (.cells #[.int .i64 0, .bool false, .int .i64 0, .int .i64 0, .string ⟨#[]⟩] 26)).heap[v1.heap.size]? = some (.cells #[.int .i64 0, .bool false, .int .i64 0, .int .i64 0, .string ⟨#[]⟩] 26)) := heap_new v1 _
        refine hJ.out _ _ HW2.out (fun hHeld2 => ?_)
        clear hJ J hHeld1 HW1
        try simp only [Act.put, List.setIfInBounds_toArray, List.set_cons_zero, List.set_cons_succ, List.getElem_toArray, List.getElem_cons_zero, List.getElem_cons_succ]
        have hXg2 : v1.heap.size < (v1.alloc (.cells #[.int .i64 0, .bool false, .int .i64 0, .int .i64 0, .string ⟨#[]⟩] 26)).heap.size := by simp
        generalize v1.alloc (.cells #[.int .i64 0, .bool false, .int .i64 0, .int .i64 0, .string ⟨#[]⟩] 26) = v2 at *
        generalize v1.heap.size = X at *
        refine wpAnyH_ready (rs := [4]) (by kernel_rfl) (by simp) ?_
        refine AllReadyH.cons rfl (fun J hJ => ?_) AllReadyH.nil
        go_simp
        go_at_call 12
        refine (pressAllI' newM GdM.new (ks.take k) (K.extract 0 k) HT.out.symm Ma La qa1 HRA.out HQA.out hkt _).mono ?_
        rintro e v3 ⟨gq, cq, rfl, hoq, hbc⟩
        have hsz3 := HW2.out.size
        have HW3 : Hid (Below (w6).heap.size (w6) v3) := bel_on (Nat.le_refl _) HW2.out hbc
        have HX3 : Hid (v3.heap[X]? = some (.cells #[.int .i64 0, .bool false, .int .i64 0, .int .i64 0, .string ⟨#[]⟩] 26)) := row_on HX2.out hbc
        have HO3 : Hid (OwnA v3 (w6).heap.size gq qa1 cq La) := hoq.mono hsz3
        unfold mnV
        (try dsimp only)
        clear hoq hbc HW2 HX2
        go_wp2_with fail
        refine hJ.out _ _ HW3.out (fun hHeld3 => ?_)
        clear hJ J hHeld2
        try simp only [Act.put, List.setIfInBounds_toArray, List.set_cons_zero, List.set_cons_succ, List.getElem_toArray, List.getElem_cons_zero, List.getElem_cons_succ]
        refine wpAnyH_take (i := 5) (v := ?_) rfl (by kernel_rfl) (by kernel_rfl) (by kernel_rfl) (fun _ _ _ h => h) (Or.inl ⟨by rfl, ?_⟩) (by assumption) ?_
        rotate_left
        · intro w_ hSw; (try dsimp only at hSw); go_simp <;> with_reducible rfl
        try simp only [Act.put, List.setIfInBounds_toArray, List.set_cons_zero, List.set_cons_succ, List.getElem_toArray, List.getElem_cons_zero, List.getElem_cons_succ]
        refine wpAnyH_take (i := 6) (v := ?_) rfl (by kernel_rfl) (by kernel_rfl) (by kernel_rfl) (fun _ _ _ h => h) (Or.inl ⟨by rfl, ?_⟩) (by assumption) ?_
        rotate_left
        · intro w_ hSw; (try dsimp only at hSw); go_simp <;> with_reducible rfl
        try simp only [Act.put, List.setIfInBounds_toArray, List.set_cons_zero, List.set_cons_succ, List.getElem_toArray, List.getElem_cons_zero, List.getElem_cons_succ]
        refine wpAnyH_take (i := 7) (v := ?_) rfl (by kernel_rfl) (by kernel_rfl) (by kernel_rfl) (fun _ _ _ h => h) (Or.inl ⟨by rfl, ?_⟩) (by assumption) ?_
        rotate_left
        · intro w_ hSw; (try dsimp only at hSw); go_simp <;> with_reducible rfl
        try simp only [Act.put, List.setIfInBounds_toArray, List.set_cons_zero, List.set_cons_succ, List.getElem_toArray, List.getElem_cons_zero, List.getElem_cons_succ]
        refine wpAnyH_ready (rs := [9]) (by kernel_rfl) (by simp) ?_
        refine AllReadyH.cons rfl (fun J hJ => ?_) AllReadyH.nil
        refine storeM_any rfl rfl _ _ _ rfl rfl X (Ma.a) (Ma.b) (Ma.n) (Ma.d) (⟨Ma.s.toArray⟩) rfl rfl HX3.out ?_
        intro v9 hput
        have HW9 : Hid (Below (w6).heap.size (w6) v9) := hput.2.2.2 _ _ (by omega) HW3.out
        have HX9 : Hid (v9.heap[X]? = some (.cells #[.int .i64 Ma.a, .bool Ma.b, .int .i64 Ma.n, .int .i64 Ma.d, .string ⟨Ma.s.toArray⟩] 26)) := hput.1
        have HO9 : Hid (OwnA v9 (w6).heap.size gq qa1 cq La) := HO3.out.put hput HX3.out
        clear hput HW3 HX3 HO3
        refine hJ.out _ _ HW9.out (fun hHeld9 => ?_)
        clear hJ J hHeld3
        try simp only [Act.put, List.setIfInBounds_toArray, List.set_cons_zero, List.set_cons_succ, List.getElem_toArray, List.getElem_cons_zero, List.getElem_cons_succ]
        refine wpAnyH_take (i := 10) (v := ?_) rfl (by kernel_rfl) (by kernel_rfl) (by kernel_rfl) (fun _ _ _ h => h) (Or.inl ⟨by rfl, ?_⟩) (by assumption) ?_
        rotate_left
        · intro w_ hSw; (try dsimp only at hSw); go_simp <;> with_reducible rfl
        try simp only [Act.put, List.setIfInBounds_toArray, List.set_cons_zero, List.set_cons_succ, List.getElem_toArray, List.getElem_cons_zero, List.getElem_cons_succ]
        clear hHeld9
        refine wpAnyH_done (by kernel_rfl) ?_ _
        (try go_wp2_with fail)
        go_meet
        exact ⟨X, gq, cq, rfl, rfl, HX9, HO9, HW9, by omega⟩
    · go_simp
      have hsz1 := HW0.out.size
      have HW1 : Hid (Below (w6).heap.size (w6) (v0.alloc (.cells #[.int .i64 0, .bool false, .int .i64 0, .int .i64 0, .string ⟨#[]⟩] 26))) := bel_on (Nat.le_refl _) HW0.out (alM _ _)
      have HX1 : Hid ((v0.alloc (.cells #[.int .i64 0, .bool false, .int .i64 0, .int .i64 0, .string ⟨#[]⟩] 26)).heap[v0.heap.size]? = some (.cells #[.int .i64 0, .bool false, .int .i64 0, .int .i64 0, .string ⟨#[]⟩] 26)) := heap_new v0 _
      refine hJ.out _ _ HW1.out (fun hHeld1 => ?_)
      clear hJ J hHeld0 HW0
      try simp only [Act.put, List.setIfInBounds_toArray, List.set_cons_zero, List.set_cons_succ, List.getElem_toArray, List.getElem_cons_zero, List.getElem_cons_succ]
      have hXg1 : v0.heap.size < (v0.alloc (.cells #[.int .i64 0, .bool false, .int .i64 0, .int .i64 0, .string ⟨#[]⟩] 26)).heap.size := by simp
      generalize v0.alloc (.cells #[.int .i64 0, .bool false, .int .i64 0, .int .i64 0, .string ⟨#[]⟩] 26) = v1 at *
      generalize v0.heap.size = X at *
      refine wpAnyH_ready (rs := [0]) (by kernel_rfl) (by simp) ?_
      refine AllReadyH.cons rfl (fun J hJ => ?_) AllReadyH.nil
      go_simp
      go_at_call 13
      refine (menunewI _).mono ?_
      rintro e v2 ⟨rfl, hbc⟩
      have HW2 : Hid (Below (w6).heap.size (w6) v2) := bel_on (Nat.le_refl _) HW1.out hbc
      have HX2 : Hid (v2.heap[X]? = some (.cells #[.int .i64 0, .bool false, .int .i64 0, .int .i64 0, .string ⟨#[]⟩] 26)) := row_on HX1.out hbc
      unfold mnV newM
      dsimp only
      clear hbc HW1 HX1
      go_wp2_with fail
      refine hJ.out _ _ HW2.out (fun hHeld2 => ?_)
      clear hJ J hHeld1
      try simp only [Act.put, List.setIfInBounds_toArray, List.set_cons_zero, List.set_cons_succ, List.getElem_toArray, List.getElem_cons_zero, List.getElem_cons_succ]
      refine wpAnyH_ready (rs := [4]) (by kernel_rfl) (by simp) ?_
      refine AllReadyH.cons rfl (fun J hJ => ?_) AllReadyH.nil
      go_simp
      go_at_call 12
      refine (pressAllI' newM GdM.new (ks.take k) (K.extract 0 k) HT.out.symm Ma La qa1 HRA.out HQA.out hkt _).mono ?_
      rintro e v3 ⟨gq, cq, rfl, hoq, hbc⟩
      have hsz3 := HW2.out.size
      have HW3 : Hid (Below (w6).heap.size (w6) v3) := bel_on (Nat.le_refl _) HW2.out hbc
      have HX3 : Hid (v3.heap[X]? = some (.cells #[.int .i64 0, .bool false, .int .i64 0, .int .i64 0, .string ⟨#[]⟩] 26)) := row_on HX2.out hbc
      have HO3 : Hid (OwnA v3 (w6).heap.size gq qa1 cq La) := hoq.mono hsz3
      unfold mnV
      (try dsimp only)
      clear hoq hbc HW2 HX2
      go_wp2_with fail
      refine hJ.out _ _ HW3.out (fun hHeld3 => ?_)
      clear hJ J hHeld2
      try simp only [Act.put, List.setIfInBounds_toArray, List.set_cons_zero, List.set_cons_succ, List.getElem_toArray, List.getElem_cons_zero, List.getElem_cons_succ]
      refine wpAnyH_take (i := 5) (v := ?_) rfl (by kernel_rfl) (by kernel_rfl) (by kernel_rfl) (fun _ _ _ h => h) (Or.inl ⟨by rfl, ?_⟩) (by assumption) ?_
      rotate_left
      · intro w_ hSw; (try dsimp only at hSw); go_simp <;> with_reducible rfl
      try simp only [Act.put, List.setIfInBounds_toArray, List.set_cons_zero, List.set_cons_succ, List.getElem_toArray, List.getElem_cons_zero, List.getElem_cons_succ]
      refine wpAnyH_take (i := 6) (v := ?_) rfl (by kernel_rfl) (by kernel_rfl) (by kernel_rfl) (fun _ _ _ h => h) (Or.inl ⟨by rfl, ?_⟩) (by assumption) ?_
      rotate_left
      · intro w_ hSw; (try dsimp only at hSw); go_simp <;> with_reducible rfl
      try simp only [Act.put, List.setIfInBounds_toArray, List.set_cons_zero, List.set_cons_succ, List.getElem_toArray, List.getElem_cons_zero, List.getElem_cons_succ]
      refine wpAnyH_take (i := 7) (v := ?_) rfl (by kernel_rfl) (by kernel_rfl) (by kernel_rfl) (fun _ _ _ h => h) (Or.inl ⟨by rfl, ?_⟩) (by assumption) ?_
      rotate_left
      · intro w_ hSw; (try dsimp only at hSw); go_simp <;> with_reducible rfl
      try simp only [Act.put, List.setIfInBounds_toArray, List.set_cons_zero, List.set_cons_succ, List.getElem_toArray, List.getElem_cons_zero, List.getElem_cons_succ]
      refine wpAnyH_ready (rs := [9]) (by kernel_rfl) (by simp) ?_
      refine AllReadyH.cons rfl (fun J hJ => ?_) AllReadyH.nil
      refine storeM_any rfl rfl _ _ _ rfl rfl X (Ma.a) (Ma.b) (Ma.n) (Ma.d) (⟨Ma.s.toArray⟩) rfl rfl HX3.out ?_
      intro v9 hput
      have HW9 : Hid (Below (w6).heap.size (w6) v9) := hput.2.2.2 _ _ (by omega) HW3.out
      have HX9 : Hid (v9.heap[X]? = some (.cells #[.int .i64 Ma.a, .bool Ma.b, .int .i64 Ma.n, .int .i64 Ma.d, .string ⟨Ma.s.toArray⟩] 26)) := hput.1
      have HO9 : Hid (OwnA v9 (w6).heap.size gq qa1 cq La) := HO3.out.put hput HX3.out
      clear hput HW3 HX3 HO3
      refine hJ.out _ _ HW9.out (fun hHeld9 => ?_)
      clear hJ J hHeld3
      try simp only [Act.put, List.setIfInBounds_toArray, List.set_cons_zero, List.set_cons_succ, List.getElem_toArray, List.getElem_cons_zero, List.getElem_cons_succ]
      refine wpAnyH_take (i := 10) (v := ?_) rfl (by kernel_rfl) (by kernel_rfl) (by kernel_rfl) (fun _ _ _ h => h) (Or.inl ⟨by rfl, ?_⟩) (by assumption) ?_
      rotate_left
      · intro w_ hSw; (try dsimp only at hSw); go_simp <;> with_reducible rfl
      try simp only [Act.put, List.setIfInBounds_toArray, List.set_cons_zero, List.set_cons_succ, List.getElem_toArray, List.getElem_cons_zero, List.getElem_cons_succ]
      clear hHeld9
      refine wpAnyH_done (by kernel_rfl) ?_ _
      (try go_wp2_with fail)
      go_meet
      exact ⟨X, gq, cq, rfl, rfl, HX9, HO9, HW9, by omega⟩
  case rest =>
    clear HW0
    obtain ⟨X9, g10, c10, rfl, rfl, HX9, HO10, HB9, hX9⟩ := hcut
    have HB9s := HB9.out
    generalize hwc : wc = w9 at *
    clear hwc
    have N_37 : Hid ((w6).heap.size ≤ (w9).heap.size) := (HB9.out).size
    have FW_38 : Hid (Below w.heap.size w (w9)) := bel_on (Nat.le_refl _) FW_32.out (HB9.out)
    have Fb4_39 : Hid ((w9).heap[w3.heap.size]? = some (.cells #[.int .i64 M.a, .bool M.b, .int .i64 M.n, .int .i64 M.d, .string ⟨M.s.toArray⟩] 26)) := row_on Fb4_33.out (HB9.out)
    have Fb6_40 : Hid ((w9).heap[w5.heap.size]? = some (.cells #[.int .i64 M.a, .bool M.b, .int .i64 M.n, .int .i64 M.d, .string ⟨M.s.toArray⟩] 26)) := row_on Fb6_34.out (HB9.out)
    clear FW_32 Fb4_33 Fb6_34
    have FO5_41 : Hid (OwnA (w9) ((w2).heap.size) g3 q c3 l) := FO5_35.out.on (HB9.out)
    clear FO5_35
    have FO7_42 : Hid (OwnE (w9) ((w4).heap.size) g5 q c5 l) := FO7_36.out.on (HB9.out)
    clear FO7_36
    have Fb9_43 : Hid ((w9).heap[X9]? = some (.cells #[.int .i64 Ma.a, .bool Ma.b, .int .i64 Ma.n, .int .i64 Ma.d, .string ⟨Ma.s.toArray⟩] 26)) := HX9.out
    have FO10_44 : Hid (OwnA (w9) ((w6).heap.size) g10 qa1 c10 La) := HO10.out
    clear HX9 HO10 HB9 HB9s
    go_upto_region 8 with fail
    have HW0 : Hid (Below (w9).heap.size (w9) (w9).drew) := (Below.refl _ _).drew
    go_cut [11, 12] (fun o1 o2 wc => ∃ (X : Nat) (g : Option Addr) (c : Nat), o1 = .pointer (some ⟨X, 0, none⟩) ∧ o2 = .slice g qb1 c ∧ Hid (wc.heap[X]? = some (.cells #[.int .i64 M.a, .bool M.b, .int .i64 M.n, .int .i64 M.d, .string ⟨M.s.toArray⟩] 26)) ∧ Hid (OwnA wc (w9).heap.size g qb1 c Lb) ∧ Hid (Below (w9).heap.size (w9) wc) ∧ (w9).heap.size ≤ X)
    case first =>
      refine wp_region_held_drew (S := fun w' => Below (w9).heap.size (w9) w') (by kernel_rfl) HW0.out (fun hHeld0 => ?_)
      obtain ⟨v0, hv0⟩ : ∃ v0, (w9).drew = v0 := ⟨_, rfl⟩
      rw [hv0] at HW0 hHeld0 ⊢
      clear hv0
      refine wpAnyH_take (i := 0) (v := ?_) rfl (by kernel_rfl) (by kernel_rfl) (by kernel_rfl) (fun _ _ _ h => h) (Or.inl ⟨by rfl, ?_⟩) (by assumption) ?_
      rotate_left
      · intro w_ hSw; (try dsimp only at hSw); have k0_ := box5_cells (row_on Fb9_43.out hSw); go_simp <;> with_reducible rfl
      try simp only [Act.put, List.setIfInBounds_toArray, List.set_cons_zero, List.set_cons_succ, List.getElem_toArray, List.getElem_cons_zero, List.getElem_cons_succ]
      refine wpAnyH_take (i := 1) (v := ?_) rfl (by kernel_rfl) (by kernel_rfl) (by kernel_rfl) (fun _ _ _ h => h) (Or.inl ⟨by rfl, ?_⟩) (by assumption) ?_
      rotate_left
      · intro w_ hSw; (try dsimp only at hSw); go_simp <;> with_reducible rfl
      try simp only [Act.put, List.setIfInBounds_toArray, List.set_cons_zero, List.set_cons_succ, List.getElem_toArray, List.getElem_cons_zero, List.getElem_cons_succ]
      refine wpAnyH_take (i := 2) (v := ?_) rfl (by kernel_rfl) (by kernel_rfl) (by kernel_rfl) (fun _ _ _ h => h) (Or.inl ⟨by rfl, ?_⟩) (by assumption) ?_
      rotate_left
      · intro w_ hSw; (try dsimp only at hSw); go_simp <;> with_reducible rfl
      try simp only [Act.put, List.setIfInBounds_toArray, List.set_cons_zero, List.set_cons_succ, List.getElem_toArray, List.getElem_cons_zero, List.getElem_cons_succ]
      refine wpAnyH_take (i := 3) (v := ?_) rfl (by kernel_rfl) (by kernel_rfl) (by kernel_rfl) (fun _ _ _ h => h) (Or.inl ⟨by rfl, ?_⟩) (by assumption) ?_
      rotate_left
      · intro w_ hSw; (try dsimp only at hSw); go_simp <;> with_reducible rfl
      try simp only [Act.put, List.setIfInBounds_toArray, List.set_cons_zero, List.set_cons_succ, List.getElem_toArray, List.getElem_cons_zero, List.getElem_cons_succ]
      refine wpAnyH_ready (rs := [4, 8]) (by kernel_rfl) (by simp) ?_
      refine AllReadyH.cons rfl (fun J hJ => ?_) (AllReadyH.cons rfl (fun J hJ => ?_) AllReadyH.nil)
      · go_simp
        go_at_call 12
        refine (pressAllI' Ma HGA.out (ks.drop k) (K.extract k K.size) HDr.out.symm M Lb qb1 HRB.out HQB.out hkd _).mono ?_
        rintro e v1 ⟨gq, cq, rfl, hoq, hbc⟩
        have hsz1 := HW0.out.size
        have HW1 : Hid (Below (w9).heap.size (w9) v1) := bel_on (Nat.le_refl _) HW0.out hbc
        have HO1 : Hid (OwnA v1 (w9).heap.size gq qb1 cq Lb) := hoq.mono hsz1
        unfold mnV
        (try dsimp only)
        clear hoq hbc HW0
        go_wp2_with fail
        refine hJ.out _ _ HW1.out (fun hHeld1 => ?_)
        clear hJ J hHeld0
        try simp only [Act.put, List.setIfInBounds_toArray, List.set_cons_zero, List.set_cons_succ, List.getElem_toArray, List.getElem_cons_zero, List.getElem_cons_succ]
        refine wpAnyH_take (i := 5) (v := ?_) rfl (by kernel_rfl) (by kernel_rfl) (by kernel_rfl) (fun _ _ _ h => h) (Or.inl ⟨by rfl, ?_⟩) (by assumption) ?_
        rotate_left
        · intro w_ hSw; (try dsimp only at hSw); go_simp <;> with_reducible rfl
        try simp only [Act.put, List.setIfInBounds_toArray, List.set_cons_zero, List.set_cons_succ, List.getElem_toArray, List.getElem_cons_zero, List.getElem_cons_succ]
        refine wpAnyH_take (i := 6) (v := ?_) rfl (by kernel_rfl) (by kernel_rfl) (by kernel_rfl) (fun _ _ _ h => h) (Or.inl ⟨by rfl, ?_⟩) (by assumption) ?_
        rotate_left
        · intro w_ hSw; (try dsimp only at hSw); go_simp <;> with_reducible rfl
        try simp only [Act.put, List.setIfInBounds_toArray, List.set_cons_zero, List.set_cons_succ, List.getElem_toArray, List.getElem_cons_zero, List.getElem_cons_succ]
        refine wpAnyH_take (i := 7) (v := ?_) rfl (by kernel_rfl) (by kernel_rfl) (by kernel_rfl) (fun _ _ _ h => h) (Or.inl ⟨by rfl, ?_⟩) (by assumption) ?_
        rotate_left
        · intro w_ hSw; (try dsimp only at hSw); go_simp <;> with_reducible rfl
        try simp only [Act.put, List.setIfInBounds_toArray, List.set_cons_zero, List.set_cons_succ, List.getElem_toArray, List.getElem_cons_zero, List.getElem_cons_succ]
        refine wpAnyH_ready (rs := [8]) (by kernel_rfl) (by simp) ?_
        refine AllReadyH.cons rfl (fun J hJ => ?_) AllReadyH.nil
        go_simp
        have hsz2 := HW1.out.size
        have HW2 : Hid (Below (w9).heap.size (w9) (v1.alloc (.cells #[.int .i64 0, .bool false, .int .i64 0, .int .i64 0, .string ⟨#[]⟩] 26))) := bel_on (Nat.le_refl _) HW1.out (alM _ _)
        have HO2 : Hid (OwnA (v1.alloc (.cells #[.int .i64 0, .bool false, .int .i64 0, .int .i64 0, .string ⟨#[]⟩] 26)) (w9).heap.size gq qb1 cq Lb) := HO1.out.on (alM _ _)
        have HX2 : Hid ((v1.alloc (.cells #[.int .i64 0, .bool false, .int .i64 0, .int .i64 0, .string ⟨#[]⟩] 26)).heap[v1.heap.size]? = some (.cells #[.int .i64 0, .bool false, .int .i64 0, .int .i64 0, .string ⟨#[]⟩] 26)) := heap_new v1 _
        refine hJ.out _ _ HW2.out (fun hHeld2 => ?_)
        clear hJ J hHeld1 HW1 HO1
        try simp only [Act.put, List.setIfInBounds_toArray, List.set_cons_zero, List.set_cons_succ, List.getElem_toArray, List.getElem_cons_zero, List.getElem_cons_succ]
        have hXg2 : v1.heap.size < (v1.alloc (.cells #[.int .i64 0, .bool false, .int .i64 0, .int .i64 0, .string ⟨#[]⟩] 26)).heap.size := by simp
        generalize v1.alloc (.cells #[.int .i64 0, .bool false, .int .i64 0, .int .i64 0, .string ⟨#[]⟩] 26) = v2 at *
        generalize v1.heap.size = X at *
        refine wpAnyH_ready (rs := [9]) (by kernel_rfl) (by simp) ?_
        refine AllReadyH.cons rfl (fun J hJ => ?_) AllReadyH.nil
        refine storeM_any rfl rfl _ _ _ rfl rfl X (M.a) (M.b) (M.n) (M.d) (⟨M.s.toArray⟩) rfl rfl HX2.out ?_
        intro v9 hput
        have HW9 : Hid (Below (w9).heap.size (w9) v9) := hput.2.2.2 _ _ (by omega) HW2.out
        have HX9 : Hid (v9.heap[X]? = some (.cells #[.int .i64 M.a, .bool M.b, .int .i64 M.n, .int .i64 M.d, .string ⟨M.s.toArray⟩] 26)) := hput.1
        have HO9 : Hid (OwnA v9 (w9).heap.size gq qb1 cq Lb) := HO2.out.put hput HX2.out
        clear hput HW2 HX2 HO2
        refine hJ.out _ _ HW9.out (fun hHeld9 => ?_)
        clear hJ J hHeld2
        try simp only [Act.put, List.setIfInBounds_toArray, List.set_cons_zero, List.set_cons_succ, List.getElem_toArray, List.getElem_cons_zero, List.getElem_cons_succ]
        refine wpAnyH_take (i := 10) (v := ?_) rfl (by kernel_rfl) (by kernel_rfl) (by kernel_rfl) (fun _ _ _ h => h) (Or.inl ⟨by rfl, ?_⟩) (by assumption) ?_
        rotate_left
        · intro w_ hSw; (try dsimp only at hSw); go_simp <;> with_reducible rfl
        try simp only [Act.put, List.setIfInBounds_toArray, List.set_cons_zero, List.set_cons_succ, List.getElem_toArray, List.getElem_cons_zero, List.getElem_cons_succ]
        clear hHeld9
        refine wpAnyH_done (by kernel_rfl) ?_ _
        (try go_wp2_with fail)
        go_meet
        exact ⟨X, gq, cq, rfl, rfl, HX9, HO9, HW9, by omega⟩
      · go_simp
        have hsz1 := HW0.out.size
        have HW1 : Hid (Below (w9).heap.size (w9) (v0.alloc (.cells #[.int .i64 0, .bool false, .int .i64 0, .int .i64 0, .string ⟨#[]⟩] 26))) := bel_on (Nat.le_refl _) HW0.out (alM _ _)
        have HX1 : Hid ((v0.alloc (.cells #[.int .i64 0, .bool false, .int .i64 0, .int .i64 0, .string ⟨#[]⟩] 26)).heap[v0.heap.size]? = some (.cells #[.int .i64 0, .bool false, .int .i64 0, .int .i64 0, .string ⟨#[]⟩] 26)) := heap_new v0 _
        refine hJ.out _ _ HW1.out (fun hHeld1 => ?_)
        clear hJ J hHeld0 HW0
        try simp only [Act.put, List.setIfInBounds_toArray, List.set_cons_zero, List.set_cons_succ, List.getElem_toArray, List.getElem_cons_zero, List.getElem_cons_succ]
        have hXg1 : v0.heap.size < (v0.alloc (.cells #[.int .i64 0, .bool false, .int .i64 0, .int .i64 0, .string ⟨#[]⟩] 26)).heap.size := by simp
        generalize v0.alloc (.cells #[.int .i64 0, .bool false, .int .i64 0, .int .i64 0, .string ⟨#[]⟩] 26) = v1 at *
        generalize v0.heap.size = X at *
        refine wpAnyH_ready (rs := [4]) (by kernel_rfl) (by simp) ?_
        refine AllReadyH.cons rfl (fun J hJ => ?_) AllReadyH.nil
        go_simp
        go_at_call 12
        refine (pressAllI' Ma HGA.out (ks.drop k) (K.extract k K.size) HDr.out.symm M Lb qb1 HRB.out HQB.out hkd _).mono ?_
        rintro e v2 ⟨gq, cq, rfl, hoq, hbc⟩
        have hsz2 := HW1.out.size
        have HW2 : Hid (Below (w9).heap.size (w9) v2) := bel_on (Nat.le_refl _) HW1.out hbc
        have HX2 : Hid (v2.heap[X]? = some (.cells #[.int .i64 0, .bool false, .int .i64 0, .int .i64 0, .string ⟨#[]⟩] 26)) := row_on HX1.out hbc
        have HO2 : Hid (OwnA v2 (w9).heap.size gq qb1 cq Lb) := hoq.mono hsz2
        unfold mnV
        (try dsimp only)
        clear hoq hbc HW1 HX1
        go_wp2_with fail
        refine hJ.out _ _ HW2.out (fun hHeld2 => ?_)
        clear hJ J hHeld1
        try simp only [Act.put, List.setIfInBounds_toArray, List.set_cons_zero, List.set_cons_succ, List.getElem_toArray, List.getElem_cons_zero, List.getElem_cons_succ]
        refine wpAnyH_take (i := 5) (v := ?_) rfl (by kernel_rfl) (by kernel_rfl) (by kernel_rfl) (fun _ _ _ h => h) (Or.inl ⟨by rfl, ?_⟩) (by assumption) ?_
        rotate_left
        · intro w_ hSw; (try dsimp only at hSw); go_simp <;> with_reducible rfl
        try simp only [Act.put, List.setIfInBounds_toArray, List.set_cons_zero, List.set_cons_succ, List.getElem_toArray, List.getElem_cons_zero, List.getElem_cons_succ]
        refine wpAnyH_take (i := 6) (v := ?_) rfl (by kernel_rfl) (by kernel_rfl) (by kernel_rfl) (fun _ _ _ h => h) (Or.inl ⟨by rfl, ?_⟩) (by assumption) ?_
        rotate_left
        · intro w_ hSw; (try dsimp only at hSw); go_simp <;> with_reducible rfl
        try simp only [Act.put, List.setIfInBounds_toArray, List.set_cons_zero, List.set_cons_succ, List.getElem_toArray, List.getElem_cons_zero, List.getElem_cons_succ]
        refine wpAnyH_take (i := 7) (v := ?_) rfl (by kernel_rfl) (by kernel_rfl) (by kernel_rfl) (fun _ _ _ h => h) (Or.inl ⟨by rfl, ?_⟩) (by assumption) ?_
        rotate_left
        · intro w_ hSw; (try dsimp only at hSw); go_simp <;> with_reducible rfl
        try simp only [Act.put, List.setIfInBounds_toArray, List.set_cons_zero, List.set_cons_succ, List.getElem_toArray, List.getElem_cons_zero, List.getElem_cons_succ]
        refine wpAnyH_ready (rs := [9]) (by kernel_rfl) (by simp) ?_
        refine AllReadyH.cons rfl (fun J hJ => ?_) AllReadyH.nil
        refine storeM_any rfl rfl _ _ _ rfl rfl X (M.a) (M.b) (M.n) (M.d) (⟨M.s.toArray⟩) rfl rfl HX2.out ?_
        intro v9 hput
        have HW9 : Hid (Below (w9).heap.size (w9) v9) := hput.2.2.2 _ _ (by omega) HW2.out
        have HX9 : Hid (v9.heap[X]? = some (.cells #[.int .i64 M.a, .bool M.b, .int .i64 M.n, .int .i64 M.d, .string ⟨M.s.toArray⟩] 26)) := hput.1
        have HO9 : Hid (OwnA v9 (w9).heap.size gq qb1 cq Lb) := HO2.out.put hput HX2.out
        clear hput HW2 HX2 HO2
        refine hJ.out _ _ HW9.out (fun hHeld9 => ?_)
        clear hJ J hHeld2
        try simp only [Act.put, List.setIfInBounds_toArray, List.set_cons_zero, List.set_cons_succ, List.getElem_toArray, List.getElem_cons_zero, List.getElem_cons_succ]
        refine wpAnyH_take (i := 10) (v := ?_) rfl (by kernel_rfl) (by kernel_rfl) (by kernel_rfl) (fun _ _ _ h => h) (Or.inl ⟨by rfl, ?_⟩) (by assumption) ?_
        rotate_left
        · intro w_ hSw; (try dsimp only at hSw); go_simp <;> with_reducible rfl
        try simp only [Act.put, List.setIfInBounds_toArray, List.set_cons_zero, List.set_cons_succ, List.getElem_toArray, List.getElem_cons_zero, List.getElem_cons_succ]
        clear hHeld9
        refine wpAnyH_done (by kernel_rfl) ?_ _
        (try go_wp2_with fail)
        go_meet
        exact ⟨X, gq, cq, rfl, rfl, HX9, HO9, HW9, by omega⟩
    case rest =>
      clear HW0
      obtain ⟨X11, g12, c12, rfl, rfl, HX11, HO12, HB11, hX11⟩ := hcut
      generalize hwc : wc = w11 at *
      clear hwc
      have N_45 : Hid ((w9).heap.size ≤ (w11).heap.size) := (HB11.out).size
      have FW_46 : Hid (Below w.heap.size w (w11)) := bel_on (Nat.le_refl _) FW_38.out (HB11.out)
      have Fb4_47 : Hid ((w11).heap[w3.heap.size]? = some (.cells #[.int .i64 M.a, .bool M.b, .int .i64 M.n, .int .i64 M.d, .string ⟨M.s.toArray⟩] 26)) := row_on Fb4_39.out (HB11.out)
      have Fb6_48 : Hid ((w11).heap[w5.heap.size]? = some (.cells #[.int .i64 M.a, .bool M.b, .int .i64 M.n, .int .i64 M.d, .string ⟨M.s.toArray⟩] 26)) := row_on Fb6_40.out (HB11.out)
      have Fb9_49 : Hid ((w11).heap[X9]? = some (.cells #[.int .i64 Ma.a, .bool Ma.b, .int .i64 Ma.n, .int .i64 Ma.d, .string ⟨Ma.s.toArray⟩] 26)) := row_on Fb9_43.out (HB11.out)
      clear FW_38 Fb4_39 Fb6_40 Fb9_43
      have FO5_50 : Hid (OwnA (w11) ((w2).heap.size) g3 q c3 l) := FO5_41.out.on (HB11.out)
      clear FO5_41
      have FO7_51 : Hid (OwnE (w11) ((w4).heap.size) g5 q c5 l) := FO7_42.out.on (HB11.out)
      clear FO7_42
      have FO10_52 : Hid (OwnA (w11) ((w6).heap.size) g10 qa1 c10 La) := FO10_44.out.on (HB11.out)
      clear FO10_44
      have Fb11_53 : Hid ((w11).heap[X11]? = some (.cells #[.int .i64 M.a, .bool M.b, .int .i64 M.n, .int .i64 M.d, .string ⟨M.s.toArray⟩] 26)) := HX11.out
      clear HX11 HO12 HB11
      have hqi : IntKind.i64.wrap ((qa1 : Int) + (qb1 : Int)) = (q : Int) := by rw [wrap_in (by omega) (by omega)]; omega
      have kb4 := box5_cells Fb4_47.out
      have kb6 := box5_cells Fb6_48.out
      have kb11 := box5_cells Fb11_53.out
      go_upto_region 11 with fail
      clear hqi kb4 kb6 kb11
      have HS0 : Hid ((fun w' => OwnA w' ((w2).heap.size) g3 q c3 l ∧ OwnE w' ((w4).heap.size) g5 q c5 l ∧ w'.heap[w3.heap.size]? = some (.cells #[.int .i64 M.a, .bool M.b, .int .i64 M.n, .int .i64 M.d, .string ⟨M.s.toArray⟩] 26) ∧ w'.heap[X9]? = some (.cells #[.int .i64 Ma.a, .bool Ma.b, .int .i64 Ma.n, .int .i64 Ma.d, .string ⟨Ma.s.toArray⟩] 26) ∧ Below w.heap.size w w') w11) := ⟨FO5_50.out, FO7_51.out, Fb4_47.out, Fb9_49.out, FW_46.out⟩
      clear FW_46 Fb4_47 Fb6_48 Fb9_49 FO5_50 FO7_51 FO10_52 Fb11_53
      generalize (w2).heap.size = B5 at *
      generalize (w4).heap.size = B7 at *
      generalize w3.heap.size = X4 at *
      go_wp2
      go_loopg [13] q (fun gk i wr => ∃ j : Nat, j + gk = q ∧ i = .int .i64 j ∧ Hid (OwnA wr B5 g3 q c3 l ∧ OwnE wr B7 g5 q c5 l ∧ wr.heap[X4]? = some (.cells #[.int .i64 M.a, .bool M.b, .int .i64 M.n, .int .i64 M.d, .string ⟨M.s.toArray⟩] 26) ∧ wr.heap[X9]? = some (.cells #[.int .i64 Ma.a, .bool Ma.b, .int .i64 Ma.n, .int .i64 Ma.d, .string ⟨Ma.s.toArray⟩] 26) ∧ Below w.heap.size w wr))
      case atStart => exact ⟨0, by omega, rfl, HS0⟩
      case round =>
        clear HS0
        obtain ⟨j, hj, rfl, HS⟩ := hrel
        by_cases hlt : j < q
        · have hjl : j < l.length := by have := HQ.out; omega
          have HOJ : Hid (OrdR l[j].1 l[j].2.1 l[j].2.2.1 l[j].2.2.2) := HORD.out _ (List.getElem_mem hjl)
          obtain ⟨⟨ok, on, od, ov⟩, he⟩ : ∃ x, l[j] = x := ⟨_, rfl⟩
          have j0 : (0 : Int) ≤ j := by omega
          have jq : (j : Int) < q := by omega
          have qi : IntKind.i64.wrap ((j : Int) + 1) = (j : Int) + 1 := wrap_in (by omega) (by omega)
          rw [he] at HOJ
          have HBO : Hid (true = true ↔ OrdR ok on od ov) := ⟨fun _ => HOJ.out, fun _ => rfl⟩
          have hc4 : ∀ {W : World} {B g c : Nat}, OwnE W B g q c l → W.cell? ⟨g, j * 4, none⟩ = some (.int .i64 ok) ∧ W.cell? ⟨g, j * 4 + 1, none⟩ = some (.int .i64 on) ∧ W.cell? ⟨g, j * 4 + 2, none⟩ = some (.int .i64 od) ∧ W.cell? ⟨g, j * 4 + 3, none⟩ = some (.int .i64 ov) := fun h => by have h4 := h.cell4 j hjl; rw [he] at h4; exact h4
          have HC4 : Hid _ := @hc4
          clear hc4 he HOJ
          obtain ⟨g3, rfl, _⟩ := HS.out.1.at (by omega)
          go_upto_region 14 with fail
          refine wp_region_held_drew (S := fun w' => OwnA w' B5 (some ⟨g3, 0, none⟩) q c3 l ∧ OwnE w' B7 g5 q c5 l ∧ w'.heap[X4]? = some (.cells #[.int .i64 M.a, .bool M.b, .int .i64 M.n, .int .i64 M.d, .string ⟨M.s.toArray⟩] 26) ∧ w'.heap[X9]? = some (.cells #[.int .i64 Ma.a, .bool Ma.b, .int .i64 Ma.n, .int .i64 Ma.d, .string ⟨Ma.s.toArray⟩] 26) ∧ Below w.heap.size w w') (by kernel_rfl) (show OwnA wr.drew B5 (some ⟨g3, 0, none⟩) q c3 l ∧ OwnE wr.drew B7 g5 q c5 l ∧ wr.drew.heap[X4]? = some (.cells #[.int .i64 M.a, .bool M.b, .int .i64 M.n, .int .i64 M.d, .string ⟨M.s.toArray⟩] 26) ∧ wr.drew.heap[X9]? = some (.cells #[.int .i64 Ma.a, .bool Ma.b, .int .i64 Ma.n, .int .i64 Ma.d, .string ⟨Ma.s.toArray⟩] 26) ∧ Below w.heap.size w wr.drew from ⟨HS.out.1, HS.out.2.1, HS.out.2.2.1, HS.out.2.2.2.1, HS.out.2.2.2.2.drew⟩) (fun hHeld => ?_)
          refine wpAnyH_take (i := 0) (v := ?_) rfl (by kernel_rfl) (by kernel_rfl) (by kernel_rfl) (fun _ _ _ h => h) (Or.inl ⟨by rfl, ?_⟩) (by assumption) ?_
          rotate_left
          · intro w_ hSw; (try dsimp only at hSw); go_simp <;> with_reducible rfl
          try simp only [Act.put, List.setIfInBounds_toArray, List.set_cons_zero, List.set_cons_succ, List.getElem_toArray, List.getElem_cons_zero, List.getElem_cons_succ]
          refine wpAnyH_take (i := 1) (v := ?_) rfl (by kernel_rfl) (by kernel_rfl) (by kernel_rfl) (fun _ _ _ h => h) (Or.inl ⟨by rfl, ?_⟩) (by assumption) ?_
          rotate_left
          · intro w_ hSw; (try dsimp only at hSw); go_simp <;> with_reducible rfl
          try simp only [Act.put, List.setIfInBounds_toArray, List.set_cons_zero, List.set_cons_succ, List.getElem_toArray, List.getElem_cons_zero, List.getElem_cons_succ]
          refine wpAnyH_take (i := 2) (v := ?_) rfl (by kernel_rfl) (by kernel_rfl) (by kernel_rfl) (fun _ _ _ h => h) (Or.inl ⟨by rfl, ?_⟩) (by assumption) ?_
          rotate_left
          · intro w_ hSw; (try dsimp only at hSw); go_simp <;> with_reducible rfl
          try simp only [Act.put, List.setIfInBounds_toArray, List.set_cons_zero, List.set_cons_succ, List.getElem_toArray, List.getElem_cons_zero, List.getElem_cons_succ]
          refine wpAnyH_take (i := 3) (v := ?_) rfl (by kernel_rfl) (by kernel_rfl) (by kernel_rfl) (fun _ _ _ h => h) (Or.inl ⟨by rfl, ?_⟩) (by assumption) ?_
          rotate_left
          · intro w_ hSw; (try dsimp only at hSw); have k0_ := HC4.out (OwnA.asE hSw.1); go_simp <;> with_reducible rfl
          try simp only [Act.put, List.setIfInBounds_toArray, List.set_cons_zero, List.set_cons_succ, List.getElem_toArray, List.getElem_cons_zero, List.getElem_cons_succ]
          refine wpAnyH_take (i := 4) (v := ?_) rfl (by kernel_rfl) (by kernel_rfl) (by kernel_rfl) (fun _ _ _ h => h) (Or.inl ⟨by rfl, ?_⟩) (by assumption) ?_
          rotate_left
          · intro w_ hSw; (try dsimp only at hSw); go_simp <;> with_reducible rfl
          try simp only [Act.put, List.setIfInBounds_toArray, List.set_cons_zero, List.set_cons_succ, List.getElem_toArray, List.getElem_cons_zero, List.getElem_cons_succ]
          refine wpAnyH_take (i := 5) (v := ?_) rfl (by kernel_rfl) (by kernel_rfl) (by kernel_rfl) (fun _ _ _ h => h) (Or.inl ⟨by rfl, ?_⟩) (by assumption) ?_
          rotate_left
          · intro w_ hSw; (try dsimp only at hSw); go_simp <;> with_reducible rfl
          try simp only [Act.put, List.setIfInBounds_toArray, List.set_cons_zero, List.set_cons_succ, List.getElem_toArray, List.getElem_cons_zero, List.getElem_cons_succ]
          refine wpAnyH_take (i := 6) (v := ?_) rfl (by kernel_rfl) (by kernel_rfl) (by kernel_rfl) (fun _ _ _ h => h) (Or.inl ⟨by rfl, ?_⟩) (by assumption) ?_
          rotate_left
          · intro w_ hSw; (try dsimp only at hSw); go_simp <;> with_reducible rfl
          try simp only [Act.put, List.setIfInBounds_toArray, List.set_cons_zero, List.set_cons_succ, List.getElem_toArray, List.getElem_cons_zero, List.getElem_cons_succ]
          refine wpAnyH_take (i := 7) (v := ?_) rfl (by kernel_rfl) (by kernel_rfl) (by kernel_rfl) (fun _ _ _ h => h) (Or.inl ⟨by rfl, ?_⟩) (by assumption) ?_
          rotate_left
          · intro w_ hSw; (try dsimp only at hSw); have k0_ := HC4.out hSw.2.1; go_simp <;> with_reducible rfl
          try simp only [Act.put, List.setIfInBounds_toArray, List.set_cons_zero, List.set_cons_succ, List.getElem_toArray, List.getElem_cons_zero, List.getElem_cons_succ]
          refine wpAnyH_take (i := 8) (v := ?_) rfl (by kernel_rfl) (by kernel_rfl) (by kernel_rfl) (fun _ _ _ h => h) (Or.inl ⟨by rfl, ?_⟩) (by assumption) ?_
          rotate_left
          · intro w_ hSw; (try dsimp only at hSw); go_simp <;> with_reducible rfl
          try simp only [Act.put, List.setIfInBounds_toArray, List.set_cons_zero, List.set_cons_succ, List.getElem_toArray, List.getElem_cons_zero, List.getElem_cons_succ]
          refine wpAnyH_take (i := 9) (v := ?_) rfl (by kernel_rfl) (by kernel_rfl) (by kernel_rfl) (fun _ _ _ h => h) (Or.inl ⟨by rfl, ?_⟩) (by assumption) ?_
          rotate_left
          · intro w_ hSw; (try dsimp only at hSw); go_simp <;> with_reducible rfl
          try simp only [Act.put, List.setIfInBounds_toArray, List.set_cons_zero, List.set_cons_succ, List.getElem_toArray, List.getElem_cons_zero, List.getElem_cons_succ]
          refine wpAnyH_take (i := 10) (v := ?_) rfl (by kernel_rfl) (by kernel_rfl) (by kernel_rfl) (fun _ _ _ h => h) (Or.inl ⟨by rfl, ?_⟩) (by assumption) ?_
          rotate_left
          · intro w_ hSw; (try dsimp only at hSw); go_simp <;> with_reducible rfl
          try simp only [Act.put, List.setIfInBounds_toArray, List.set_cons_zero, List.set_cons_succ, List.getElem_toArray, List.getElem_cons_zero, List.getElem_cons_succ]
          refine wpAnyH_take (i := 11) (v := ?_) rfl (by kernel_rfl) (by kernel_rfl) (by kernel_rfl) (fun _ _ _ h => h) (Or.inl ⟨by rfl, ?_⟩) (by assumption) ?_
          rotate_left
          · intro w_ hSw; (try dsimp only at hSw); go_simp <;> with_reducible rfl
          try simp only [Act.put, List.setIfInBounds_toArray, List.set_cons_zero, List.set_cons_succ, List.getElem_toArray, List.getElem_cons_zero, List.getElem_cons_succ]
          refine wpAnyH_take (i := 12) (v := ?_) rfl (by kernel_rfl) (by kernel_rfl) (by kernel_rfl) (fun _ _ _ h => h) (Or.inl ⟨by rfl, ?_⟩) (by assumption) ?_
          rotate_left
          · intro w_ hSw; (try dsimp only at hSw); go_simp <;> with_reducible rfl
          try simp only [Act.put, List.setIfInBounds_toArray, List.set_cons_zero, List.set_cons_succ, List.getElem_toArray, List.getElem_cons_zero, List.getElem_cons_succ]
          refine wpAnyH_take (i := 13) (v := ?_) rfl (by kernel_rfl) (by kernel_rfl) (by kernel_rfl) (fun _ _ _ h => h) (Or.inl ⟨by rfl, ?_⟩) (by assumption) ?_
          rotate_left
          · intro w_ hSw; (try dsimp only at hSw); have k0_ := HC4.out (OwnA.asE hSw.1); go_simp <;> with_reducible rfl
          try simp only [Act.put, List.setIfInBounds_toArray, List.set_cons_zero, List.set_cons_succ, List.getElem_toArray, List.getElem_cons_zero, List.getElem_cons_succ]
          refine wpAnyH_ready (rs := [14]) (by kernel_rfl) (by simp) ?_
          refine AllReadyH.cons rfl (fun J hJ => ?_) AllReadyH.nil
          go_simp
          go_at_call 17
          refine (ordokI ok on od ov true HBO.out _).mono ?_
          rintro e v1 ⟨rfl, hbc⟩
          have HS1 : Hid (OwnA v1 B5 (some ⟨g3, 0, none⟩) q c3 l ∧ OwnE v1 B7 g5 q c5 l ∧ v1.heap[X4]? = some (.cells #[.int .i64 M.a, .bool M.b, .int .i64 M.n, .int .i64 M.d, .string ⟨M.s.toArray⟩] 26) ∧ v1.heap[X9]? = some (.cells #[.int .i64 Ma.a, .bool Ma.b, .int .i64 Ma.n, .int .i64 Ma.d, .string ⟨Ma.s.toArray⟩] 26) ∧ Below w.heap.size w v1) := ⟨hHeld.1.on hbc, hHeld.2.1.on hbc, row_on hHeld.2.2.1 hbc, row_on hHeld.2.2.2.1 hbc, bel_on (Nat.le_refl _) hHeld.2.2.2.2 hbc⟩
          clear hbc hHeld
          go_wp2_with fail
          refine hJ.out _ _ HS1.out (fun hHeld1 => ?_)
          clear hJ J
          try simp only [Act.put, List.setIfInBounds_toArray, List.set_cons_zero, List.set_cons_succ, List.getElem_toArray, List.getElem_cons_zero, List.getElem_cons_succ]
          refine wpAnyH_take (i := 15) (v := ?_) rfl (by kernel_rfl) (by kernel_rfl) (by kernel_rfl) (fun _ _ _ h => h) (Or.inl ⟨by rfl, ?_⟩) (by assumption) ?_
          rotate_left
          · intro w_ hSw; (try dsimp only at hSw); go_simp <;> with_reducible rfl
          try simp only [Act.put, List.setIfInBounds_toArray, List.set_cons_zero, List.set_cons_succ, List.getElem_toArray, List.getElem_cons_zero, List.getElem_cons_succ]
          refine wpAnyH_take (i := 16) (v := ?_) rfl (by kernel_rfl) (by kernel_rfl) (by kernel_rfl) (fun _ _ _ h => h) (Or.inl ⟨by rfl, ?_⟩) (by assumption) ?_
          rotate_left
          · intro w_ hSw; (try dsimp only at hSw); go_simp <;> with_reducible rfl
          try simp only [Act.put, List.setIfInBounds_toArray, List.set_cons_zero, List.set_cons_succ, List.getElem_toArray, List.getElem_cons_zero, List.getElem_cons_succ]
          refine wpAnyH_done (by kernel_rfl) ?_ _
          clear hHeld1
          go_wp2
          go_roundg (gk - 1)
          case measure => omega
          case rel => exact ⟨j + 1, by omega, by go_num, HS1⟩
        · have k4 := box5_cells HS.out.2.2.1
          go_wp2_with fail
          refine (menuokI M true HOKM.out _).mono ?_
          rintro e v1 ⟨rfl, hb1⟩
          have HX1 : Hid (v1.heap[X9]? = some (.cells #[.int .i64 Ma.a, .bool Ma.b, .int .i64 Ma.n, .int .i64 Ma.d, .string ⟨Ma.s.toArray⟩] 26)) := row_on HS.out.2.2.2.1 hb1
          have HB1 : Hid (Below w.heap.size w v1) := bel_on (Nat.le_refl _) HS.out.2.2.2.2 hb1
          clear hb1 HS k4
          have k9 := box5_cells HX1.out
          go_wp2_with fail
          refine (menuokI Ma true HOKA.out _).mono ?_
          rintro e v2 ⟨rfl, hb1⟩
          have HB2 : Hid (Below w.heap.size w v2) := bel_on (Nat.le_refl _) HB1.out hb1
          clear hb1 HX1 HB1 k9
          go_wp2_with fail
          refine (menunewI _).mono ?_
          rintro e v3 ⟨rfl, hb1⟩
          have HB3 : Hid (Below w.heap.size w v3) := bel_on (Nat.le_refl _) HB2.out hb1
          clear hb1 HB2
          go_wp2_with fail
          refine (menuokI newM true newM_ok _).mono ?_
          rintro e v4 ⟨rfl, hb1⟩
          have HB4 : Hid (Below w.heap.size w v4) := bel_on (Nat.le_refl _) HB3.out hb1
          clear hb1 HB3
          go_wp2
          go_ret
          exact ⟨rfl, HB4.out⟩
end Go.Proofs.Ytjaimcmnndejgaa
