/-
  FnOwners: its walk over bytes that are not too many.
-/
import Derived.Test.YtelhnoepkfojkaaOwnersA8
namespace Go.Proofs.Ytelhnoepkfojkaa
open Go.RowKit Go.PlainAid
set_option linter.unusedVariables false
set_option linter.unusedSimpArgs false

/-- what stands while FnOwners is walked: the arena's box and its cells, the list of regions, the numbers -/
def OT (w1 W : World) (ba gp ql qo : Nat) (rl : List (Int × Int)) (P : List Int) : Prop := (∃ (g : Nat) (A : List Int), W.heap[ba]? = some (.cells #[.slice (some ⟨g, 0, none⟩) 64 64] 29) ∧ RowAt W g A ∧ A.length = 64 ∧ g ≠ ba) ∧ RdR W (some ⟨ql, qo, none⟩) rl ∧ (∀ j (h : j < P.length), W.cell? ⟨gp, j, none⟩ = some (.int .i64 P[j])) ∧ Below w1.heap.size w1 W ∧ w1.heap.size ≤ ba ∧ ql ≠ ba ∧ gp ≠ ba ∧ ba < W.heap.size
theorem OT.on {w1 W W' : World} {ba gp ql qo : Nat} {rl : List (Int × Int)} {P : List Int} (h : OT w1 W ba gp ql qo rl P) (hb : Below W.heap.size W W') : OT w1 W' ba gp ql qo rl P := by
  obtain ⟨⟨g, A, h1, h2, h3, h4⟩, h5, h6, h7, h8, h9, h10, h11⟩ := h
  have := hb.size
  exact ⟨⟨g, A, row_on h1 hb, h2.on hb, h3, h4⟩, h5.on hb, fun j hj => (hb.cell (p := ⟨gp, j, none⟩) (World.block_lt_of_cell? W ⟨gp, j, none⟩ (h6 j hj))).trans (h6 j hj), bel_on (Nat.le_refl _) h7 hb, h8, h9, h10, by omega⟩
theorem rdR_set {W : World} {g o k i : Nat} {rl : List (Int × Int)} {v : Value} (h : RdR W (some ⟨g, o, none⟩) rl) (hk : g ≠ k) : RdR (W.setCell ⟨k, i, none⟩ v) (some ⟨g, o, none⟩) rl := fun h0 => by
  obtain ⟨g', o', e, hc⟩ := h h0
  cases e
  exact ⟨g, o, rfl, fun j hj => ⟨(World.cell?_of_block (a := ⟨g, o + j * 2, none⟩) (Below.heap_setCell _ _ _ _ hk)).trans (hc j hj).1, (World.cell?_of_block (a := ⟨g, o + j * 2 + 1, none⟩) (Below.heap_setCell _ _ _ _ hk)).trans (hc j hj).2⟩⟩
/-- another arena is put into the box -/
theorem OT.put {w1 W : World} {ba gp ql qo g' : Nat} {rl : List (Int × Int)} {P A' : List Int} (h : OT w1 W ba gp ql qo rl P) (hr : RowAt W g' A') (hl : A'.length = 64) (hne : g' ≠ ba) : OT w1 (W.setCell ⟨ba, 0, none⟩ (.slice (some ⟨g', 0, none⟩) 64 64)) ba gp ql qo rl P := by
  obtain ⟨⟨g, A, h1, h2, h3, h4⟩, h5, h6, h7, h8, h9, h10, h11⟩ := h
  exact ⟨⟨g', A', set1_row h1, set_other hr hne, hl, hne⟩, rdR_set h5 h9, fun j hj => (World.cell?_of_block (a := ⟨gp, j, none⟩) (Below.heap_setCell _ _ _ _ h10)).trans (h6 j hj), h7.setCell h8 _, h8, h9, h10, by simpa using h11⟩
theorem OT.drew {w1 W : World} {ba gp ql qo : Nat} {rl : List (Int × Int)} {P : List Int} (h : OT w1 W ba gp ql qo rl P) : OT w1 W.drew ba gp ql qo rl P := ⟨h.1, h.2.1, h.2.2.1, h.2.2.2.1.drew, h.2.2.2.2⟩

theorem s3_keep {W W' : World} {k gp i : Nat} {u v x : Value} (h : W.cell? ⟨k, 0, none⟩ = some u ∧ W.cell? ⟨k, 1, none⟩ = some v ∧ W.cell? ⟨gp, i, none⟩ = some x) (hb : Below W.heap.size W W') : W'.cell? ⟨k, 0, none⟩ = some u ∧ W'.cell? ⟨k, 1, none⟩ = some v ∧ W'.cell? ⟨gp, i, none⟩ = some x := ⟨(hb.cell (p := ⟨k, 0, none⟩) (World.block_lt_of_cell? W _ h.1)).trans h.1, (hb.cell (p := ⟨k, 1, none⟩) (World.block_lt_of_cell? W _ h.2.1)).trans h.2.1, (hb.cell (p := ⟨gp, i, none⟩) (World.block_lt_of_cell? W _ h.2.2)).trans h.2.2⟩

theorem s3_put {W : World} {k gp i b : Nat} {u v x y : Value} (h : W.cell? ⟨k, 0, none⟩ = some u ∧ W.cell? ⟨k, 1, none⟩ = some v ∧ W.cell? ⟨gp, i, none⟩ = some x) (hk : k ≠ b) (hg : gp ≠ b) : (W.setCell ⟨b, 0, none⟩ y).cell? ⟨k, 0, none⟩ = some u ∧ (W.setCell ⟨b, 0, none⟩ y).cell? ⟨k, 1, none⟩ = some v ∧ (W.setCell ⟨b, 0, none⟩ y).cell? ⟨gp, i, none⟩ = some x := ⟨(World.cell?_setCell_far _ _ _ _ (Ne.symm hk)).trans h.1, (World.cell?_setCell_far _ _ _ _ (Ne.symm hk)).trans h.2.1, (World.cell?_setCell_far _ _ _ _ (Ne.symm hg)).trans h.2.2⟩

theorem c4_keep {W0 W' : World} {a b c : Addr} {x y z : Value} (h : W0.cell? a = some x ∧ W0.cell? b = some y ∧ W0.cell? c = some z) (hB : Below W0.heap.size W0 W') : W'.cell? a = some x ∧ W'.cell? b = some y ∧ W'.cell? c = some z ∧ Below W0.heap.size W0 W' :=
  ⟨(hB.cell (World.block_lt_of_cell? W0 _ h.1)).trans h.1, (hB.cell (World.block_lt_of_cell? W0 _ h.2.1)).trans h.2.1, (hB.cell (World.block_lt_of_cell? W0 _ h.2.2)).trans h.2.2, hB⟩
theorem c4_bel {W0 W : World} {a b c : Addr} {x y z : Value} (h : W.cell? a = some x ∧ W.cell? b = some y ∧ W.cell? c = some z ∧ Below W0.heap.size W0 W) : Below W0.heap.size W0 W := h.2.2.2
theorem c4_on {W0 W W' : World} {a b c : Addr} {x y z : Value} (hb : Below W.heap.size W W') (h : W.cell? a = some x ∧ W.cell? b = some y ∧ W.cell? c = some z ∧ Below W0.heap.size W0 W) : Below W0.heap.size W0 W' := bel_on (Nat.le_refl _) h.2.2.2 hb
/-- what stands behind the clearing: both arenas and the list -/
def OB (w1 W : World) (ba g : Nat) (A : List Int) (bb gb : Nat) (L : List Int) (ql qo : Nat) (rl : List (Int × Int)) : Prop := W.heap[ba]? = some (.cells #[.slice (some ⟨g, 0, none⟩) 64 64] 29) ∧ RowAt W g A ∧ A.length = 64 ∧ AB W bb (some ⟨gb, 0, none⟩) 64 L ∧ RdR W (some ⟨ql, qo, none⟩) rl ∧ Below w1.heap.size w1 W
theorem OB.on {w1 W W' : World} {ba g : Nat} {A : List Int} {bb gb : Nat} {L : List Int} {ql qo : Nat} {rl : List (Int × Int)} (h : OB w1 W ba g A bb gb L ql qo rl) (hb : Below W.heap.size W W') : OB w1 W' ba g A bb gb L ql qo rl :=
  ⟨row_on h.1 hb, h.2.1.on hb, h.2.2.1, h.2.2.2.1.on hb, h.2.2.2.2.1.on hb, bel_on (Nat.le_refl _) h.2.2.2.2.2 hb⟩

theorem cut_full {f s : Int} (h : regIn f s) : ((cutN 64 f s : Nat) : Int) = s := by
  unfold regIn at h
  rw [cutN_yes (by omega)]
  omega
theorem clL_out {A : List Int} {f s : Int} {m : Nat} (h : m < f.toNat ∨ f.toNat + cutN A.length f s ≤ m) : (clL A f s)[m]? = A[m]? := by
  by_cases hc : 0 < cutN A.length f s
  · have hin := cutN_in hc
    unfold clL
    rcases h with h | h
    · rw [List.getElem?_append_left (by simp; omega), List.getElem?_take_of_lt h]
    · rw [List.getElem?_append_right (by simp; omega), List.getElem?_append_right (by simp; omega), List.getElem?_drop]
      congr 1
      simp
      omega
  · rw [clL_none (by omega)]
theorem ceL_self {A : List Int} {f s : Int} : ceL (clL A f s) f s = List.replicate (cutN A.length f s) 0 := by
  by_cases hc : 0 < cutN A.length f s
  · have hin := cutN_in hc
    have hF : (A.take f.toNat).length = f.toNat := by simp; omega
    unfold ceL
    rw [clL_len]
    unfold clL
    rw [List.drop_left' hF, List.take_left' (by simp)]
  · have h0 : cutN A.length f s = 0 := by omega
    refine List.eq_replicate_iff.2 ⟨by rw [ceL_len, clL_len], fun b hb => ?_⟩
    have := List.length_pos_of_mem hb
    rw [ceL_len, clL_len] at this
    omega
theorem ceL_apart {A : List Int} {f s f' s' : Int} (h : apart f' s' f s) : ceL (clL A f s) f' s' = ceL A f' s' := by
  unfold ceL
  rw [clL_len]
  apply List.ext_getElem?
  intro j
  rw [List.getElem?_take, List.getElem?_take]
  split
  · rename_i hj
    rw [List.getElem?_drop, List.getElem?_drop]
    have h2 := cutN_in (n := A.length) (f := f') (s := s') (by omega)
    apply clL_out
    by_cases hc : 0 < cutN A.length f s
    · have h1 := cutN_in hc
      unfold apart at h
      omega
    · exact if h : f'.toNat + j < f.toNat then .inl h else .inr (by omega)
  · rfl
theorem regs_apart {rl : List (Int × Int)} (h : RegsOk rl) {i k : Nat} (hi : i < rl.length) (hk : k < rl.length) (hne : i ≠ k) : apart rl[i].1 rl[i].2 rl[k].1 rl[k].2 := by
  by_cases hlt : k < i
  · exact h.2.2.2 i hi k hlt
  · have := h.2.2.2 k hk i (by omega)
    unfold apart at this ⊢
    omega

set_option maxRecDepth 100000 in
set_option maxHeartbeats 3000000 in
theorem owners_in (a : Option Addr) (len cap : Nat) (hl : len ≤ 1048576) (w : World) (hcode : CodeOk w w.heap.size a len) :
    Calls Try.prog 7 #[.slice a len cap] w fun e w' => e = .returned (.bool true) ∧ Below w.heap.size w w' := by
  have HCode : Hid (CodeOk w w.heap.size a len) := hcode
  have hll : len ≤ 9223372036854775807 := by omega
  clear hcode
  go_enter Try.func7, Try.ntmps7
  go_wp2_with fail
  refine (big5 a len cap hll _).mono ?_
  rintro e w1 ⟨rfl, rfl⟩
  rw [decide_eq_false (by omega)]
  go_wp2_with fail
  refine (dregs w1.heap.size a len cap _ HCode.out (Nat.le_refl _)).mono ?_
  rintro e w2 ⟨q, n, c, rl, rfl, hn, hnc, hok, hrd, hb2⟩
  have HN : Hid (rl.length = n) := hn
  have HK : Hid (RegsOk rl) := hok
  have HW2 : Hid (Below w1.heap.size w1 w2) := hb2
  have HC2 : Hid (CodeOk w2 w1.heap.size a len) := code_below HCode.out hb2
  have n1 : 1 ≤ n := by have := hok.1; omega
  have n4 : n ≤ 4 := by have := hok.2.1; omega
  have s2 := hb2.size
  obtain ⟨ql, qo, hq, hc0⟩ := hrd (by omega)
  subst hq
  have HR2 : Hid (RdR w2 (some ⟨ql, qo, none⟩) rl) := hrd
  have lq : ql < w2.heap.size := World.block_lt_of_cell? w2 ⟨ql, qo + 0 * 2, none⟩ (hc0 0 (by omega)).1
  clear hn hok hrd hb2 hc0
  go_wp2_with fail
  refine (places17 w1.heap.size a len cap _ HC2.out s2).mono ?_
  rintro e w3 ⟨gp, cp, P, rfl, hP, hsm, hgp, hpc, hb3⟩
  have HPl : Hid (P.length = 12) := hP
  have HSm : Hid (Small P) := hsm
  have HR3 : Hid (RdR w3 (some ⟨ql, qo, none⟩) rl) := HR2.out.on hb3
  have HW3 : Hid (Below w1.heap.size w1 w3) := bel_on (Nat.le_refl _) HW2.out hb3
  have HPc : Hid (∀ j (h : j < P.length), w3.cell? ⟨gp, j, none⟩ = some (.int .i64 P[j])) := hpc
  have lp : gp < w3.heap.size := World.block_lt_of_cell? w3 ⟨gp, 0, none⟩ (hpc 0 (by omega))
  have s3 := hb3.size
  have s31 := HW3.out.size
  rw [hP]
  clear hP hsm hpc hb3 HR2 HW2 HC2
  go_wp2_with fail
  refine (newI _).mono ?_
  rintro e w4 ⟨g4, rfl, hg4, hrow4, hb4⟩
  have s4 := hb4.size
  have l4 := hrow4.lt
  have HO : Hid (OT w1 (w4.alloc (.cells #[.slice (some ⟨g4, 0, none⟩) 64 64] 29)) w4.heap.size gp ql qo rl P) := by
    have hx := bel_new w4 (.cells #[.slice (some ⟨g4, 0, none⟩) 64 64] 29)
    refine ⟨⟨g4, z64, heap_new w4 _, hrow4.alloc _, by simp [z64], by omega⟩, (HR3.out.on hb4).on hx, fun j hj => ?_, bel_on (Nat.le_refl _) (bel_on (Nat.le_refl _) HW3.out hb4) hx, by omega, by omega, by omega, by simp⟩
    have h1 := HPc.out j hj
    have h2 := (hb4.cell (p := ⟨gp, j, none⟩) lp).trans h1
    exact (hx.cell (p := ⟨gp, j, none⟩) (show gp < w4.heap.size by omega)).trans h2
  clear hrow4 hb4 HR3 HW3 HPc
  go_wp2
  go_loopg [6] 8 (fun gk iv wr => ∃ i : Nat, i + gk = 8 ∧ iv = .int .i64 i ∧ Hid (OT w1 wr w4.heap.size gp ql qo rl P))
  case atStart => exact ⟨0, by omega, rfl, HO⟩
  case round =>
    clear HO
    obtain ⟨i, hi, rfl, HO⟩ := hrel
    by_cases hlt : i < 8
    · have hiP : i < P.length := by have := HPl.out; omega
      have hp := HO.out.2.2.1 i hiP
      obtain ⟨p, hpe⟩ : ∃ p, P[i] = p := ⟨_, rfl⟩
      have hpr : 0 ≤ p ∧ p ≤ 9999 := by rw [← hpe]; exact HSm.out _ (List.getElem_mem _)
      rw [hpe] at hp
      obtain ⟨pa, pb⟩ := hpr
      obtain ⟨k, hk⟩ : ∃ k : Nat, (k : Int) = p % (n : Int) := ⟨(p % (n : Int)).toNat, Int.toNat_of_nonneg (Int.emod_nonneg _ (by omega))⟩
      have hkn : k < n := by have := Int.emod_lt_of_pos p (show (0 : Int) < (n : Int) by omega); omega
      have hkl : k < rl.length := by have := HN.out; omega
      obtain ⟨ql', qo', e', hc⟩ := HO.out.2.1 (by omega)
      cases e'
      have d := hc k hkl
      have HM : Hid (regIn rl[k].1 rl[k].2) := HK.out.2.2.1 k hkl
      obtain ⟨f, hf⟩ : ∃ f, rl[k].1 = f := ⟨_, rfl⟩
      obtain ⟨s, hs⟩ : ∃ s, rl[k].2 = s := ⟨_, rfl⟩
      rw [hf, hs] at d HM
      have hk1 : p % (n : Int) = (k : Int) := hk.symm
      have hk2 : p.tmod (n : Int) = (k : Int) := by rw [Int.tmod_eq_emod_of_nonneg pa]; exact hk1
      have hs1 : 1 ≤ s := HM.out.2.2.1
      have hs64 : s ≤ 64 := by have := HM.out; unfold regIn at this; omega
      obtain ⟨x, hx⟩ : ∃ x : Nat, (x : Int) = p % s := ⟨(p % s).toNat, Int.toNat_of_nonneg (Int.emod_nonneg _ (by omega))⟩
      have hx1 : p % s = (x : Int) := hx.symm
      have hx2 : p.tmod s = (x : Int) := by rw [Int.tmod_eq_emod_of_nonneg pa]; exact hx1
      have sz : ¬ s = 0 := by omega
      have i0 : (0 : Int) ≤ (i : Int) := by omega
      have i1 : (i : Int) < 12 := by omega
      have q1 : IntKind.i64.wrap (1 + p) = 1 + p := wrap_in (by omega) (by omega)
      have HO2 : Hid (OT w1 (wr.alloc (.cells #[.int .i64 f, .int .i64 s] 31)) w4.heap.size gp ql qo rl P) := HO.out.on (bel_new wr _)
      have HBX : Hid ((wr.alloc (.cells #[.int .i64 f, .int .i64 s] 31)).heap[wr.heap.size]? = some (.cells #[.int .i64 f, .int .i64 s] 31)) := heap_new wr _
      clear hpe hc hf hs hk hx
      obtain ⟨g, A, hA1, hA2, hA3, hA4⟩ := HO.out.1
      have ka := row1_cells hA1
      have ka2 := row1_cells ((Below.heap_alloc wr (.cells #[.int .i64 f, .int .i64 s] 31) _ (row_lt hA1)).trans hA1)
      have kx := row2_cells HBX.out
      have lba := HO.out.2.2.2.2.2.2.2
      have lgp := World.block_lt_of_cell? wr ⟨gp, i, none⟩ hp
      have hp2 := ((bel_new wr (.cells #[.int .i64 f, .int .i64 s] 31)).cell (p := ⟨gp, i, none⟩) lgp).trans hp
      have ne1 : ¬ w4.heap.size = wr.heap.size := by omega
      have ne2 : ¬ wr.heap.size = w4.heap.size := by omega
      have ne3 : ¬ gp = wr.heap.size := by have : gp < wr.heap.size := lgp; omega
      have HA : Hid (RowAt (wr.alloc (.cells #[.int .i64 f, .int .i64 s] 31)).drew g A) := hA2.alloc _
      have HAL : Hid (A.length = 64) := hA3
      clear hA1 hA2 hA3
      have HS0 : Hid ((wr.alloc (.cells #[.int .i64 f, .int .i64 s] 31)).drew.cell? ⟨wr.heap.size, 0, none⟩ = some (.int .i64 f) ∧ (wr.alloc (.cells #[.int .i64 f, .int .i64 s] 31)).drew.cell? ⟨wr.heap.size, 1, none⟩ = some (.int .i64 s) ∧ (wr.alloc (.cells #[.int .i64 f, .int .i64 s] 31)).drew.cell? ⟨gp, i, none⟩ = some (.int .i64 p)) := ⟨kx.1, kx.2.1, hp2⟩
      go_wp2_with fail
      refine wp_region_held_drew (S := fun w' => w'.cell? ⟨wr.heap.size, 0, none⟩ = some (.int .i64 f) ∧ w'.cell? ⟨wr.heap.size, 1, none⟩ = some (.int .i64 s) ∧ w'.cell? ⟨gp, i, none⟩ = some (.int .i64 p)) (by kernel_rfl) ?_ (fun hHeld => ?_)
      · exact HS0.out
      refine wpAnyH_take (i := 1) (v := ?_) rfl (by kernel_rfl) (by kernel_rfl) (by kernel_rfl) (fun _ _ _ h => h) (Or.inl ⟨by rfl, ?_⟩) (by assumption) ?_
      rotate_left
      · intro w hSw; (try dsimp only at hSw); go_simp <;> with_reducible rfl
      try simp only [Act.put, List.setIfInBounds_toArray, List.set_cons_zero, List.set_cons_succ]
      refine wpAnyH_take (i := 2) (v := ?_) rfl (by kernel_rfl) (by kernel_rfl) (by kernel_rfl) (fun _ _ _ h => h) (Or.inl ⟨by rfl, ?_⟩) (by assumption) ?_
      rotate_left
      · intro w hSw; (try dsimp only at hSw); go_simp <;> with_reducible rfl
      try simp only [Act.put, List.setIfInBounds_toArray, List.set_cons_zero, List.set_cons_succ]
      refine wpAnyH_take (i := 3) (v := ?_) rfl (by kernel_rfl) (by kernel_rfl) (by kernel_rfl) (fun _ _ _ h => h) (Or.inl ⟨by rfl, ?_⟩) (by assumption) ?_
      rotate_left
      · intro w hSw; (try dsimp only at hSw); go_simp <;> with_reducible rfl
      try simp only [Act.put, List.setIfInBounds_toArray, List.set_cons_zero, List.set_cons_succ]
      refine wpAnyH_take (i := 4) (v := ?_) rfl (by kernel_rfl) (by kernel_rfl) (by kernel_rfl) (fun _ _ _ h => h) (Or.inl ⟨by rfl, ?_⟩) (by assumption) ?_
      rotate_left
      · intro w hSw; (try dsimp only at hSw); go_simp <;> with_reducible rfl
      try simp only [Act.put, List.setIfInBounds_toArray, List.set_cons_zero, List.set_cons_succ]
      refine wpAnyH_take (i := 5) (v := ?_) rfl (by kernel_rfl) (by kernel_rfl) (by kernel_rfl) (fun _ _ _ h => h) (Or.inl ⟨by rfl, ?_⟩) (by assumption) ?_
      rotate_left
      · intro w hSw; (try dsimp only at hSw); go_simp <;> with_reducible rfl
      try simp only [Act.put, List.setIfInBounds_toArray, List.set_cons_zero, List.set_cons_succ]
      refine wpAnyH_take (i := 6) (v := ?_) rfl (by kernel_rfl) (by kernel_rfl) (by kernel_rfl) (fun _ _ _ h => h) (Or.inl ⟨by rfl, ?_⟩) (by assumption) ?_
      rotate_left
      · intro w hSw; (try dsimp only at hSw); go_simp <;> with_reducible rfl
      try simp only [Act.put, List.setIfInBounds_toArray, List.set_cons_zero, List.set_cons_succ]
      refine wpAnyH_take (i := 7) (v := ?_) rfl (by kernel_rfl) (by kernel_rfl) (by kernel_rfl) (fun _ _ _ h => h) (Or.inl ⟨by rfl, ?_⟩) (by assumption) ?_
      rotate_left
      · intro w hSw; (try dsimp only at hSw); go_simp <;> with_reducible rfl
      try simp only [Act.put, List.setIfInBounds_toArray, List.set_cons_zero, List.set_cons_succ]
      refine wpAnyH_take (i := 8) (v := ?_) rfl (by kernel_rfl) (by kernel_rfl) (by kernel_rfl) (fun _ _ _ h => h) (Or.inl ⟨by rfl, ?_⟩) (by assumption) ?_
      rotate_left
      · intro w hSw; (try dsimp only at hSw); go_simp <;> with_reducible rfl
      try simp only [Act.put, List.setIfInBounds_toArray, List.set_cons_zero, List.set_cons_succ]
      refine wpAnyH_take (i := 9) (v := ?_) rfl (by kernel_rfl) (by kernel_rfl) (by kernel_rfl) (fun _ _ _ h => h) (Or.inl ⟨by rfl, ?_⟩) (by assumption) ?_
      rotate_left
      · intro w hSw; (try dsimp only at hSw); go_simp <;> with_reducible rfl
      try simp only [Act.put, List.setIfInBounds_toArray, List.set_cons_zero, List.set_cons_succ]
      refine wpAnyH_take (i := 10) (v := ?_) rfl (by kernel_rfl) (by kernel_rfl) (by kernel_rfl) (fun _ _ _ h => h) (Or.inl ⟨by rfl, ?_⟩) (by assumption) ?_
      rotate_left
      · intro w hSw; (try dsimp only at hSw); go_simp <;> with_reducible rfl
      try simp only [Act.put, List.setIfInBounds_toArray, List.set_cons_zero, List.set_cons_succ]
      refine wpAnyH_take (i := 11) (v := ?_) rfl (by kernel_rfl) (by kernel_rfl) (by kernel_rfl) (fun _ _ _ h => h) (Or.inl ⟨by rfl, ?_⟩) (by assumption) ?_
      rotate_left
      · intro w hSw; (try dsimp only at hSw); go_simp <;> with_reducible rfl
      try simp only [Act.put, List.setIfInBounds_toArray, List.set_cons_zero, List.set_cons_succ]
      refine wpAnyH_take (i := 12) (v := ?_) rfl (by kernel_rfl) (by kernel_rfl) (by kernel_rfl) (fun _ _ _ h => h) (Or.inl ⟨by rfl, ?_⟩) (by assumption) ?_
      rotate_left
      · intro w hSw; (try dsimp only at hSw); go_simp <;> with_reducible rfl
      try simp only [Act.put, List.setIfInBounds_toArray, List.set_cons_zero, List.set_cons_succ]
      refine wpAnyH_take (i := 13) (v := ?_) rfl (by kernel_rfl) (by kernel_rfl) (by kernel_rfl) (fun _ _ _ h => h) (Or.inl ⟨by rfl, ?_⟩) (by assumption) ?_
      rotate_left
      · intro w hSw; (try dsimp only at hSw); go_simp <;> with_reducible rfl
      try simp only [Act.put, List.setIfInBounds_toArray, List.set_cons_zero, List.set_cons_succ]
      refine wpAnyH_ready (rs := [0]) (by kernel_rfl) (by simp) ?_
      refine AllReadyH.cons rfl (fun K hK => ?_) AllReadyH.nil
      go_simp
      refine hK.out _ _ ?_ (fun hHeld => ?_)
      · exact HS0.out
      clear hK K
      try simp only [Act.put, List.setIfInBounds_toArray, List.set_cons_zero, List.set_cons_succ]
      refine wpAnyH_ready (rs := [14]) (by kernel_rfl) (by simp) ?_
      refine AllReadyH.cons rfl (fun K hK => ?_) AllReadyH.nil
      go_simp
      go_at_call 23
      refine (storeI (some ⟨g, 0, none⟩) A 64 64 f s x (1 + p) HAL.out (by omega) (Nat.le_refl _) _ HA.out.rd).mono ?_
      rintro e w5 ⟨g5, rfl, hg5, hrow5, hb5⟩
      go_wp2_with fail
      refine hK.out _ _ ?_ (fun hHeld => ?_)
      · exact s3_keep HS0.out hb5
      clear hK K
      have HO5 : Hid (OT w1 w5 w4.heap.size gp ql qo rl P) := HO2.out.drew.on hb5
      have HR5 : Hid (RowAt w5 g5 (stL A f s x (1 + p))) := hrow5
      have HL5 : Hid ((stL A f s (x : Int) (1 + p)).length = 64) := by rw [stL_len]; exact HAL.out
      have g5n : g5 ≠ w4.heap.size := by
        have h1 : (wr.alloc (.cells #[.int .i64 f, .int .i64 s] 31)).drew.heap.size = wr.heap.size + 1 := by simp
        omega
      obtain ⟨gx, Ax, hx5, _, _, _⟩ := HO5.out.1
      have k5 := row1_cells hx5
      clear hx5 hrow5 hb5 HO2 HA HAL HBX kx ka ka2 hp hp2 d hk1 hk2 hx1 hx2
      try simp only [Act.put, List.setIfInBounds_toArray, List.set_cons_zero, List.set_cons_succ]
      refine wpAnyH_take (i := 15) (v := ?_) rfl (by kernel_rfl) (by kernel_rfl) (by kernel_rfl) (fun _ _ _ h => h) (Or.inl ⟨by rfl, ?_⟩) (by assumption) ?_
      rotate_left
      · intro w hSw; (try dsimp only at hSw); go_simp <;> with_reducible rfl
      try simp only [Act.put, List.setIfInBounds_toArray, List.set_cons_zero, List.set_cons_succ]
      refine wpAnyH_take (i := 16) (v := ?_) rfl (by kernel_rfl) (by kernel_rfl) (by kernel_rfl) (fun _ _ _ h => h) (Or.inl ⟨by rfl, ?_⟩) (by assumption) ?_
      rotate_left
      · intro w hSw; (try dsimp only at hSw); go_simp <;> with_reducible rfl
      try simp only [Act.put, List.setIfInBounds_toArray, List.set_cons_zero, List.set_cons_succ]
      refine wpAnyH_take (i := 17) (v := ?_) rfl (by kernel_rfl) (by kernel_rfl) (by kernel_rfl) (fun _ _ _ h => h) (Or.inl ⟨by rfl, ?_⟩) (by assumption) ?_
      rotate_left
      · intro w hSw; (try dsimp only at hSw); go_simp <;> with_reducible rfl
      try simp only [Act.put, List.setIfInBounds_toArray, List.set_cons_zero, List.set_cons_succ]
      refine wpAnyH_ready (rs := [18]) (by kernel_rfl) (by simp) ?_
      refine AllReadyH.cons rfl (fun K hK => ?_) AllReadyH.nil
      go_simp
      refine hK.out _ _ ?_ (fun hHeld => ?_)
      · exact s3_put hHeld ne2 HO5.out.2.2.2.2.2.2.1
      clear hK K
      try simp only [Act.put, List.setIfInBounds_toArray, List.set_cons_zero, List.set_cons_succ]
      refine wpAnyH_done (by kernel_rfl) ?_ _
      have HO6 : Hid (OT w1 (w5.setCell ⟨w4.heap.size, 0, none⟩ (.slice (some ⟨g5, 0, none⟩) 64 64)) w4.heap.size gp ql qo rl P) := HO5.out.put HR5.out HL5.out g5n
      clear HO5 HR5 HL5 k5 hHeld HS0 HO
      have qi : IntKind.i64.wrap ((i : Int) + 1) = (i : Int) + 1 := wrap_in (by omega) (by omega)
      go_wp2
      go_roundg (gk - 1)
      case measure => omega
      case rel => exact ⟨i + 1, by omega, by go_num, HO6⟩
    · have hi8 : i = 8 := by omega
      subst hi8
      clear HCode
      have h9 : 9 < P.length := by have := HPl.out; omega
      have hp := HO.out.2.2.1 9 h9
      obtain ⟨p, hpe⟩ : ∃ p, P[9] = p := ⟨_, rfl⟩
      have hpr : 0 ≤ p ∧ p ≤ 9999 := by rw [← hpe]; exact HSm.out _ (List.getElem_mem _)
      rw [hpe] at hp
      obtain ⟨pa, pb⟩ := hpr
      obtain ⟨k, hk⟩ : ∃ k : Nat, (k : Int) = p % (n : Int) := ⟨(p % (n : Int)).toNat, Int.toNat_of_nonneg (Int.emod_nonneg _ (by omega))⟩
      have hkn : k < n := by have := Int.emod_lt_of_pos p (show (0 : Int) < (n : Int) by omega); omega
      have hkl : k < rl.length := by have := HN.out; omega
      have hk1 : p % (n : Int) = (k : Int) := hk.symm
      have hk2 : p.tmod (n : Int) = (k : Int) := by rw [Int.tmod_eq_emod_of_nonneg pa]; exact hk1
      have hn0 : ¬ (n : Int) = 0 := by omega
      clear hpe hk
      go_upto_region 12 with fail
      clear hk1 hk2 hp
      obtain ⟨g, A, hA1, hA2, hA3, hA4⟩ := HO.out.1
      obtain ⟨ql', qo', e', hc⟩ := HO.out.2.1 (by omega)
      cases e'
      have d := hc k hkl
      obtain ⟨f, hf⟩ : ∃ f, rl[k].1 = f := ⟨_, rfl⟩
      obtain ⟨s, hs⟩ : ∃ s, rl[k].2 = s := ⟨_, rfl⟩
      rw [hf, hs] at d
      have HF : Hid (rl[k].1 = f ∧ rl[k].2 = s) := ⟨hf, hs⟩
      have H0 : Hid (wr.cell? ⟨w4.heap.size, 0, none⟩ = some (.slice (some ⟨g, 0, none⟩) 64 64) ∧ wr.cell? ⟨ql, qo + k * 2, none⟩ = some (.int .i64 f) ∧ wr.cell? ⟨ql, qo + k * 2 + 1, none⟩ = some (.int .i64 s)) := ⟨(row1_cells hA1).1, d.1, d.2⟩
      have HA : Hid (RowAt wr g A) := hA2
      have HAL : Hid (A.length = 64) := hA3
      have HA1 : Hid (wr.heap[w4.heap.size]? = some (.cells #[.slice (some ⟨g, 0, none⟩) 64 64] 29)) := hA1
      obtain ⟨L1, HL1⟩ : ∃ L1, Hid (clL A f s = L1) := ⟨_, rfl⟩
      have HLL : Hid (L1.length = 64) := by show L1.length = 64; rw [← HL1.out, clL_len]; exact hA3
      clear hc hf hs d hA1 hA2 hA3
      have k1 : (0 : Int) ≤ (k : Int) := by omega
      have k2 : (k : Int) < (n : Int) := by omega
      go_cut [9] (fun pz wc => ∃ (bb gb : Nat), pz = .pointer (some ⟨bb, 0, none⟩) ∧ Hid (AB wc bb (some ⟨gb, 0, none⟩) 64 L1) ∧ Hid (Below wr.heap.size wr wc))
      case first =>
        go_region_held3 (fun w' => w'.cell? ⟨w4.heap.size, 0, none⟩ = some (.slice (some ⟨g, 0, none⟩) 64 64) ∧ w'.cell? ⟨ql, qo + k * 2, none⟩ = some (.int .i64 f) ∧ w'.cell? ⟨ql, qo + k * 2 + 1, none⟩ = some (.int .i64 s) ∧ Below wr.heap.size wr w') (first | (exact c4_keep H0.out HBz.out) | (exact c4_keep H0.out (Below.refl _ _).drew) | (exact c4_keep H0.out (HBz.out.alloc HBz.out.size _)) | (exact c4_keep H0.out (HBz.out.setCell (by first | exact Nat.le_refl _ | omega | (simp <;> omega)) _)) | (exact c4_keep H0.out ((c4_bel (by assumption)).alloc (c4_bel (by assumption)).size _))) (first | (go_at_call 20; refine (clearI (some ⟨g, 0, none⟩) A 64 64 f s HAL.out (by omega) (Nat.le_refl _) _ ?_).mono ?_; (exact HA.out.rd.on (c4_bel (by assumption))); rintro e wF ⟨gF, rfl, hgF, hrowF, hbF⟩; (rw [HL1.out] at hrowF); (try simp at hgF); have ssF := hbF.size; (try simp at ssF); have HBz : Hid (Below wr.heap.size wr wF) := c4_on hbF (by assumption); (first | (have z4 := row_on (heap_new wr (.cells #[.slice none 0 0] 29)) (undrew hbF); have kz := row1_cells z4; have HZ4 : Hid (_ = _) := z4; clear z4) | skip)))
        all_goals (try go_wp2_with fail)
        all_goals go_meet
        all_goals first | exact ⟨_, _, rfl, ab_new hrowF HLL.out, HBz.out.alloc HBz.out.size _⟩ | exact ⟨_, _, rfl, ab_set HZ4.out hrowF (by omega) HLL.out, HBz.out.setCell (Nat.le_refl _) _⟩
      case rest =>
      rename World => wB
      obtain ⟨bb, gb, rfl, HBC, HBE⟩ := hcut
      have HB : Hid (OB w1 wB w4.heap.size g A bb gb L1 ql qo rl) := ⟨row_on HA1.out HBE.out, HA.out.on HBE.out, HAL.out, HBC.out, HO.out.2.1.on HBE.out, bel_on (Nat.le_refl _) HO.out.2.2.2.1 HBE.out⟩
      clear HO HA HA1 HBC HBE H0 HSm HPl
      go_wp2
      go_loopg [10] n (fun gk iv wx => ∃ i : Nat, i + gk = n ∧ iv = .int .i64 i ∧ Hid (OB w1 wx w4.heap.size g A bb gb L1 ql qo rl))
      case atStart => exact ⟨0, by omega, rfl, HB⟩
      case round =>
        clear HB
        rename World => wx
        obtain ⟨i, hi, rfl, HB⟩ := hrel
        by_cases hlt : i < n
        · have hil : i < rl.length := by have := HN.out; omega
          obtain ⟨ql', qo', e', hc⟩ := HB.out.2.2.2.2.1 (by omega)
          cases e'
          have d := hc i hil
          have HM : Hid (regIn rl[i].1 rl[i].2) := HK.out.2.2.1 i hil
          have HAP : Hid (i ≠ k → ceL L1 rl[i].1 rl[i].2 = ceL A rl[i].1 rl[i].2) := fun hne => by
            rw [← HL1.out, ← HF.out.1, ← HF.out.2]
            exact ceL_apart (regs_apart HK.out hil hkl hne)
          have HZZ : Hid (i = k → ceL L1 rl[i].1 rl[i].2 = List.replicate (cutN 64 rl[i].1 rl[i].2) 0) := fun he => by
            subst he
            rw [← HL1.out, ← HF.out.1, ← HF.out.2, ← HAL.out]
            exact ceL_self
          obtain ⟨f', hf⟩ : ∃ f', rl[i].1 = f' := ⟨_, rfl⟩
          obtain ⟨s', hs⟩ : ∃ s', rl[i].2 = s' := ⟨_, rfl⟩
          rw [hf, hs] at d HM HAP HZZ
          clear hf hs hc
          obtain ⟨m, HM1, hm⟩ : ∃ m : Nat, Hid (cutN 64 f' s' = m) ∧ (m : Int) = s' := ⟨_, rfl, cut_full HM.out⟩
          have hm64 : m ≤ 64 := by rw [← HM1.out]; exact cutN_le _ _ _
          have H0 : Hid (wx.cell? ⟨w4.heap.size, 0, none⟩ = some (.slice (some ⟨g, 0, none⟩) 64 64) ∧ wx.cell? ⟨ql, qo + i * 2, none⟩ = some (.int .i64 f') ∧ wx.cell? ⟨ql, qo + i * 2 + 1, none⟩ = some (.int .i64 s')) := ⟨(row1_cells HB.out.1).1, d.1, d.2⟩
          have HRA : Hid (Rd wx (some ⟨g, 0, none⟩) A) := HB.out.2.1.rd
          have i1 : (0 : Int) ≤ (i : Int) := by omega
          have i2 : (i : Int) < (n : Int) := by omega
          clear d
          go_upto_region 16 with fail
          go_cut [11] (fun v wc => ∃ gx, v = .slice (some ⟨gx, 0, none⟩) m m ∧ Hid (RowAt wc gx (ceL A f' s')) ∧ Hid (Below wx.heap.size wx wc))
          case first =>
            go_region_held3 (fun w' => w'.cell? ⟨w4.heap.size, 0, none⟩ = some (.slice (some ⟨g, 0, none⟩) 64 64) ∧ w'.cell? ⟨ql, qo + i * 2, none⟩ = some (.int .i64 f') ∧ w'.cell? ⟨ql, qo + i * 2 + 1, none⟩ = some (.int .i64 s') ∧ Below wx.heap.size wx w') (first | (exact c4_keep H0.out HBz.out) | (exact c4_keep H0.out (Below.refl _ _).drew)) (first | (go_at_call 13; refine (cellsI (some ⟨g, 0, none⟩) A 64 64 f' s' HAL.out (by omega) (Nat.le_refl _) _ ?_).mono ?_; (exact HRA.out.on (c4_bel (by assumption))); rintro e wF ⟨gF, rfl, hgF, hrowF, hbF⟩; (rw [HM1.out]); have HBz : Hid (Below wx.heap.size wx wF) := c4_on hbF (by assumption)))
            all_goals (try go_wp2_with fail)
            all_goals go_meet
            all_goals exact ⟨_, rfl, hrowF, HBz⟩
          case rest =>
          rename World => wy
          obtain ⟨gx, rfl, HX, HBX⟩ := hcut
          have HBy : Hid (OB w1 wy w4.heap.size g A bb gb L1 ql qo rl) := HB.out.on HBX.out
          have H1 : Hid (wy.cell? ⟨bb, 0, none⟩ = some (.slice (some ⟨gb, 0, none⟩) 64 64) ∧ wy.cell? ⟨ql, qo + i * 2, none⟩ = some (.int .i64 f') ∧ wy.cell? ⟨ql, qo + i * 2 + 1, none⟩ = some (.int .i64 s')) := ⟨(row1_cells HBy.out.2.2.2.1.1).1, (c4_keep H0.out HBX.out).2.1, (c4_keep H0.out HBX.out).2.2.1⟩
          have HRB : Hid (Rd wy (some ⟨gb, 0, none⟩) L1) := HBy.out.2.2.2.1.2.1
          clear HB HBX H0 HRA
          go_upto_region 17 with fail
          go_cut [12] (fun v wc => ∃ gx, v = .slice (some ⟨gx, 0, none⟩) m m ∧ Hid (RowAt wc gx (ceL L1 f' s')) ∧ Hid (Below wy.heap.size wy wc))
          case first =>
            go_region_held3 (fun w' => w'.cell? ⟨bb, 0, none⟩ = some (.slice (some ⟨gb, 0, none⟩) 64 64) ∧ w'.cell? ⟨ql, qo + i * 2, none⟩ = some (.int .i64 f') ∧ w'.cell? ⟨ql, qo + i * 2 + 1, none⟩ = some (.int .i64 s') ∧ Below wy.heap.size wy w') (first | (exact c4_keep H1.out HBz.out) | (exact c4_keep H1.out (Below.refl _ _).drew)) (first | (go_at_call 13; refine (cellsI (some ⟨gb, 0, none⟩) L1 64 64 f' s' HLL.out (by omega) (Nat.le_refl _) _ ?_).mono ?_; (exact HRB.out.on (c4_bel (by assumption))); rintro e wF ⟨gF, rfl, hgF, hrowF, hbF⟩; (rw [HM1.out]); have HBz : Hid (Below wy.heap.size wy wF) := c4_on hbF (by assumption)))
            all_goals (try go_wp2_with fail)
            all_goals go_meet
            all_goals exact ⟨_, rfl, hrowF, HBz⟩
          case rest =>
          rename World => wz
          obtain ⟨gy, rfl, HY, HBY⟩ := hcut
          have HBz : Hid (OB w1 wz w4.heap.size g A bb gb L1 ql qo rl) := HBy.out.on HBY.out
          have HXz : Hid (RowAt wz gx (ceL A f' s')) := HX.out.on HBY.out
          have hsc := (c4_keep H1.out HBY.out).2.2.1
          have HLX : Hid ((ceL A f' s').length = m) := by show (ceL A f' s').length = m; rw [ceL_len, HAL.out]; exact HM1.out
          have HLY : Hid ((ceL L1 f' s').length = m) := by show (ceL L1 f' s').length = m; rw [ceL_len, HLL.out]; exact HM1.out
          clear HBy HBY HX H1 HRB
          subst hm
          go_upto_region 18 with fail
          go_cut [101] (fun v wc => v = .bool false ∧ Hid (Below wz.heap.size wz wc))
          case first =>
            by_cases hik : i = k
            · subst hik
              go_wp2_with fail
              go_meet
              exact ⟨rfl, Below.refl _ _⟩
            · have hik2 : ¬ (i : Int) = (k : Int) := by omega
              have HY2 : Hid (RowAt wz gy (ceL A f' m)) := by rw [← HAP.out hik]; exact HY.out
              go_wp2_with (first | (go_at_call 30; refine (sameI (some ⟨gx, 0, none⟩) (some ⟨gy, 0, none⟩) (ceL A f' m) m m m HLX.out (by omega) _ HXz.out.rd HY2.out.rd).mono ?_; rintro e wS ⟨rfl, hbS⟩))
              go_meet
              exact ⟨rfl, hbS⟩
          case rest =>
          rename World => wt
          obtain ⟨rfl, HBT⟩ := hcut
          have HBt : Hid (OB w1 wt w4.heap.size g A bb gb L1 ql qo rl) := HBz.out.on HBT.out
          have HYt : Hid (RowAt wt gy (ceL L1 f' m)) := HY.out.on HBT.out
          clear HBz HXz HY HBT hsc HAP HLX
          go_wp2
          go_loopg [13] m (fun gk jv wu => ∃ j : Nat, j + gk = m ∧ jv = .int .i64 j ∧ Hid (OB w1 wu w4.heap.size g A bb gb L1 ql qo rl) ∧ Hid (RowAt wu gy (ceL L1 f' m)))
          case atStart => exact ⟨0, by omega, rfl, HBt, HYt⟩
          case round =>
            clear HBt HYt
            rename World => wu
            obtain ⟨j, hj, rfl, HBu, HYu⟩ := hrel
            by_cases hjm : j < m
            · by_cases hik : i = k
              · have hjl : j < (ceL L1 f' m).length := by have := HLY.out; omega
                have hz : (ceL L1 f' m)[j]? = some 0 := by rw [HZZ.out hik, List.getElem?_replicate, if_pos (by rw [HM1.out]; exact hjm)]
                have hz0 : (ceL L1 f' m)[j] = 0 := by rw [List.getElem?_eq_getElem hjl] at hz; exact Option.some.inj hz
                have hc0 := HYu.out.cell j hjl
                rw [hz0] at hc0
                have hik2 : (i : Int) = (k : Int) := by omega
                have j1 : (0 : Int) ≤ (j : Int) := by omega
                have j2 : (j : Int) < (m : Int) := by omega
                clear hz hz0
                go_wp2
                go_roundg (gk - 1)
                case measure => omega
                case rel => exact ⟨j + 1, by omega, by go_num, HBu, HYu⟩
              · have hik2 : ¬ (i : Int) = (k : Int) := by omega
                have j2 : (j : Int) < (m : Int) := by omega
                go_wp2
                go_roundg (n - (i + 1))
                case measure => omega
                case rel => exact ⟨i + 1, by omega, by go_num, HBu⟩
            · have j2 : ¬ (j : Int) < (m : Int) := by omega
              go_wp2
              go_roundg (n - (i + 1))
              case measure => omega
              case rel => exact ⟨i + 1, by omega, by go_num, HBu⟩
        · obtain rfl : n = i := by omega
          obtain ⟨ql', qo', e', hc⟩ := HB.out.2.2.2.2.1 (by omega)
          cases e'
          have d := hc k hkl
          rw [HF.out.1, HF.out.2] at d
          have HV : Hid (wx.cell? ⟨ql, qo + k * 2, none⟩ = some (.int .i64 f) ∧ wx.cell? ⟨ql, qo + k * 2 + 1, none⟩ = some (.int .i64 s) ∧ RdR wx (some ⟨ql, qo, none⟩) rl) := ⟨d.1, d.2, HB.out.2.2.2.2.1⟩
          have HT : Hid (¬ RegsOk (rl ++ [(f, s)])) := regs_twice hkl HF.out HK.out
          have HBw : Hid (Below w1.heap.size w1 wx) := HB.out.2.2.2.2.2
          have HN2 : Hid ((rl ++ [(f, s)]).length = n + 1) := by show (rl ++ [(f, s)]).length = n + 1; rw [List.length_append, HN.out]; rfl
          clear HF HL1 HLL HAL HB hc d
          go_upto_region 25 with fail
          go_region_held3 (fun w' => w'.cell? ⟨ql, qo + k * 2, none⟩ = some (.int .i64 f) ∧ w'.cell? ⟨ql, qo + k * 2 + 1, none⟩ = some (.int .i64 s) ∧ RdR w' (some ⟨ql, qo, none⟩) rl ∧ Below wx.heap.size wx w') (first | (exact c6_keep HV.out HBz.out) | (exact c6_keep HV.out (Below.refl _ _).drew) | (exact c6_keep HV.out ((c6_bel (by assumption)).alloc (c6_bel (by assumption)).size _))) (first
            | (go_at_call 29; refine (regsI (some ⟨g8, 0, none⟩) (rl ++ [(f, s)]) (n + 1) c8 false HN2.out (by omega) HC8.out ⟨fun h => (by cases h), fun h => absurd h HT.out⟩ _ HD8.out).mono ?_; rintro e w9 ⟨rfl, hb9⟩; have HBz : Hid (Below wx.heap.size wx w9) := c6_on hb9 (by assumption))
            | (go_at_call 29; refine (regsI (some ⟨ql, qo, none⟩) rl n c true HN.out (by omega) hnc ⟨fun _ => HK.out, fun _ => rfl⟩ _ (c6_rd (by assumption))).mono ?_; rintro e w6 ⟨rfl, hb6⟩; have HBz : Hid (Below wx.heap.size wx w6) := c6_on hb6 (by assumption); have s6 := HBz.out.size)
            | (refine app_first rfl (.tmp 121) (.tmp 122) rfl wx.heap.size w6.heap.size ql qo n c rl rfl rfl (by first | exact own_emptyE w6 wx.heap.size w6.heap.size rfl s6 | exact (own_emptyE w6 wx.heap.size w6.heap.size rfl s6).alloc _) HN.out n1 n4 (c6_rd (by assumption)) (c6_bel (by assumption)).size ?_; intro g7 c7 w7 hown7 hgr7; have HBz : Hid (Below wx.heap.size wx w7) := bel_grown (c6_bel (by assumption)) hgr7 s6; have HO7 : Hid (w7.ownsRow wx.heap.size 31 2 (.slice (some ⟨g7, 0, none⟩) n c7) n (regsV rl)) := hown7; (first | (have HR7 : Hid (w7.heap[w6.heap.size + 1]? = some (.cells #[.int .i64 f, .int .i64 s] 31)) := grown_row hgr7 (rowB _ _ _) (by simp)) | skip))
            | (refine app_first rfl (.tmp 121) (.tmp 122) rfl wx.heap.size (w6.heap.size + 1) ql qo n c rl rfl rfl (own_emptyE (w6.alloc _) wx.heap.size (w6.heap.size + 1) (by simp) (by simp; omega)) HN.out n1 n4 (c6_rd (by assumption)) (c6_bel (by assumption)).size ?_; intro g7 c7 w7 hown7 hgr7; have HBz : Hid (Below wx.heap.size wx w7) := bel_grown (c6_bel (by assumption)) hgr7 (by omega); have HO7 : Hid (w7.ownsRow wx.heap.size 31 2 (.slice (some ⟨g7, 0, none⟩) n c7) n (regsV rl)) := hown7; have HR7 : Hid (w7.heap[w6.heap.size]? = some (.cells #[.int .i64 f, .int .i64 s] 31)) := grown_row hgr7 (rowA _ _ _) (by simp))
            | (first
                | (refine app_second rfl (.tmp 123) (.tmp 128) rfl wx.heap.size g7 w6.heap.size n c7 f s rl rfl rfl HO7.out HR7.out n4 (c6_bel (by assumption)).size ?_)
                | (refine app_second rfl (.tmp 123) (.tmp 128) rfl wx.heap.size g7 (w6.heap.size + 1) n c7 f s rl rfl rfl HO7.out HR7.out n4 (c6_bel (by assumption)).size ?_)
                | (refine app_second rfl (.tmp 123) (.tmp 128) rfl wx.heap.size g7 w7.heap.size n c7 f s rl rfl rfl (HO7.out.alloc _) (heap_new w7 _) n4 (c6_bel (by assumption)).size ?_)
               intro g8 c8 w8 hown8 hgr8
               have HBz : Hid (Below wx.heap.size wx w8) := bel_grown (c6_bel (by assumption)) hgr8 (own_ge HO7.out g7 rfl)
               have HC8 : Hid (n + 1 ≤ c8) := (own_get hown8).1
               have HD8 : Hid (RdR w8 (some ⟨g8, 0, none⟩) (rl ++ [(f, s)])) := (own_get hown8).2
               clear hown8 hgr8))
          all_goals go_wp2
          all_goals go_ret
          all_goals exact ⟨rfl, bel_on (Nat.le_refl _) HBw.out HBz.out⟩
end Go.Proofs.Ytelhnoepkfojkaa
