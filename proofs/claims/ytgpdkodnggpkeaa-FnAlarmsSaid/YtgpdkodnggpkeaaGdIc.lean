/-
  What is past goes round: ago, list, pastOf of the program.
-/
import Derived.Test.YtgpdkodnggpkeaaGdIb
namespace Go.Proofs.Ytgpdkodnggpkeaa
open Go.RowKit Go.PlainAid
set_option linter.unusedVariables false
set_option linter.unusedSimpArgs false

set_option maxRecDepth 100000 in
set_option maxHeartbeats 1000000 in
theorem agoI (A : Nat → Int) (N M t : Nat) (x : Int) (hN : N < 9) (ht : 1 ≤ t ∧ t ≤ 9) (hx : A ((N + 9 - t) % 9) = x) (w : World) :
    Calls Try.prog 55 #[.agg #[.int .i64 (A 0), .int .i64 (A 1), .int .i64 (A 2), .int .i64 (A 3), .int .i64 (A 4), .int .i64 (A 5), .int .i64 (A 6), .int .i64 (A 7), .int .i64 (A 8), .int .i64 (N : Int), .int .i64 (M : Int)], .int .i64 t] w fun e w' => e = .returned (.int .i64 x) ∧ Below w.heap.size w w' := by
  have HP : Hid ((w.alloc (.cells #[.int .i64 (A 0), .int .i64 (A 1), .int .i64 (A 2), .int .i64 (A 3), .int .i64 (A 4), .int .i64 (A 5), .int .i64 (A 6), .int .i64 (A 7), .int .i64 (A 8), .int .i64 (N : Int), .int .i64 (M : Int)] 51)).heap[w.heap.size]? = some (.cells #[.int .i64 (A 0), .int .i64 (A 1), .int .i64 (A 2), .int .i64 (A 3), .int .i64 (A 4), .int .i64 (A 5), .int .i64 (A 6), .int .i64 (A 7), .int .i64 (A 8), .int .i64 (N : Int), .int .i64 (M : Int)] 51)) := heap_new w _
  have HB : Hid (Below w.heap.size w (w.alloc (.cells #[.int .i64 (A 0), .int .i64 (A 1), .int .i64 (A 2), .int .i64 (A 3), .int .i64 (A 4), .int .i64 (A 5), .int .i64 (A 6), .int .i64 (A 7), .int .i64 (A 8), .int .i64 (N : Int), .int .i64 (M : Int)] 51))) := alG _ _
  obtain ⟨k, hk⟩ : ∃ k, (N + 9 - t) % 9 = k := ⟨_, rfl⟩
  have hk9 : k < 9 := by omega
  rw [hk] at hx
  have p := row11_cells HP.out
  have c := row_at HP.out k hk9
  rw [hx] at c
  have q1 : IntKind.i64.wrap ((N : Int) + 9) = (N : Int) + 9 := wrap_in (by omega) (by omega)
  have q2 : IntKind.i64.wrap ((N : Int) + 9 - t) = (N : Int) + 9 - t := wrap_in (by omega) (by omega)
  have q3 : ((N : Int) + 9 - t).tmod 9 = (k : Int) := by rw [Int.tmod_eq_emod_of_nonneg (by omega)]; omega
  have k0 : (0 : Int) ≤ k := by omega
  have k9 : (k : Int) < 9 := by omega
  clear hx HP hk
  go_enter Try.func55, Try.ntmps55
  go_wp2
  go_ret
  exact ⟨rfl, HB.out⟩
theorem intsV_put (l : List Int) (j : Nat) (x : Int) : (intsV l).toArray.setIfInBounds j (.int .i64 x) = (intsV (l.set j x)).toArray := by
  simp [intsV, List.map_set]
set_option maxRecDepth 100000 in
set_option maxHeartbeats 2000000 in
theorem listI (l : List Int) (A : Nat → Int) (N M : Nat) (hG : Ring l A N M) (w : World) :
    Calls Try.prog 38 #[.agg #[.int .i64 (A 0), .int .i64 (A 1), .int .i64 (A 2), .int .i64 (A 3), .int .i64 (A 4), .int .i64 (A 5), .int .i64 (A 6), .int .i64 (A 7), .int .i64 (A 8), .int .i64 (N : Int), .int .i64 (M : Int)]] w fun e w' => e = .returned (.slice (some ⟨w.heap.size + 1, 0, none⟩) M M) ∧ RowAt w' (w.heap.size + 1) l ∧ Below w.heap.size w w' := by
  obtain ⟨h1, h2, h3, h4⟩ := box11b w (.cells #[.int .i64 (A 0), .int .i64 (A 1), .int .i64 (A 2), .int .i64 (A 3), .int .i64 (A 4), .int .i64 (A 5), .int .i64 (A 6), .int .i64 (A 7), .int .i64 (A 8), .int .i64 (N : Int), .int .i64 (M : Int)] 51) (.cells (intsV (List.replicate M 0)).toArray 3)
  have HG : Hid (Ring l A N M) := hG
  have HL : Hid (l.length = M) := hG.2.1
  have hM := hG.2.2.1
  have hN := hG.1
  have HP0 : Hid (_ = _) := h1
  have HR0 : Hid (RowAt ((w.alloc (.cells #[.int .i64 (A 0), .int .i64 (A 1), .int .i64 (A 2), .int .i64 (A 3), .int .i64 (A 4), .int .i64 (A 5), .int .i64 (A 6), .int .i64 (A 7), .int .i64 (A 8), .int .i64 (N : Int), .int .i64 (M : Int)] 51)).alloc (.cells (intsV (List.replicate M 0)).toArray 3)) (w.heap.size + 1) (upto l M 0)) := by show RowAt _ _ _; rw [upto_zero]; exact h2
  have HB0 : Hid (Below _ _ _) := h3
  have HS0 : Hid ((w.alloc (.cells #[.int .i64 (A 0), .int .i64 (A 1), .int .i64 (A 2), .int .i64 (A 3), .int .i64 (A 4), .int .i64 (A 5), .int .i64 (A 6), .int .i64 (A 7), .int .i64 (A 8), .int .i64 (N : Int), .int .i64 (M : Int)] 51)).heap.size = w.heap.size + 1) := by show _ = _; simp
  have p0 := row11_cells (heap_new w (.cells #[.int .i64 (A 0), .int .i64 (A 1), .int .i64 (A 2), .int .i64 (A 3), .int .i64 (A 4), .int .i64 (A 5), .int .i64 (A 6), .int .i64 (A 7), .int .i64 (A 8), .int .i64 (N : Int), .int .i64 (M : Int)] 51))
  have hmk := run_make_row' (P := Try.prog) 24 3 (.int .i64 0) 8 Try.underlying24 info3 rfl .i64 .i64 M (by omega) (by omega)
  rw [made_ints] at hmk
  clear h1 h2 h3 h4 hG
  have hm0 : (0 : Int) ≤ M := by omega
  go_enter Try.func38, Try.ntmps38
  go_wp2
  go_loopg [10] M (fun gk i wr => ∃ j : Nat, j + gk = M ∧ i = .int .i64 j ∧ Hid (RowAt wr (w.heap.size + 1) (upto l M j)) ∧ Hid (wr.heap[w.heap.size]? = some (.cells #[.int .i64 (A 0), .int .i64 (A 1), .int .i64 (A 2), .int .i64 (A 3), .int .i64 (A 4), .int .i64 (A 5), .int .i64 (A 6), .int .i64 (A 7), .int .i64 (A 8), .int .i64 (N : Int), .int .i64 (M : Int)] 51)) ∧ Hid (Below w.heap.size w wr))
  case atStart => exact ⟨0, by omega, rfl, HR0, HP0, HB0⟩
  case round =>
    clear HR0 HP0 HB0 HS0 p0 hmk
    obtain ⟨j, hj, rfl, HR, HP, HB⟩ := hrel
    have p := row11_cells HP.out
    by_cases hlt : j < M
    · have hjl : j < l.length := by have := HL.out; omega
      obtain ⟨x, hx⟩ : ∃ x, l[j] = x := ⟨_, rfl⟩
      have HX : Hid (A ((N + 9 - (j + 1)) % 9) = x) := by show _ = _; rw [HG.out.2.2.2 j hjl]; exact hx
      have q1 : IntKind.i64.wrap ((j : Int) + 1) = ((j + 1 : Nat) : Int) := by rw [wrap_in (by omega) (by omega)]; omega
      have HU : Hid ((upto l M j).set j x = upto l M (j + 1)) := by show _ = _; rw [← hx]; exact upto_set HL.out hlt hjl
      have hul : (upto l M j).length = M := upto_len HL.out (by omega)
      have j0 : (0 : Int) ≤ j := by omega
      have jM : (j : Int) < M := by omega
      clear hx
      go_wp2_with fail
      refine (agoI A N M (j + 1) x hN (by omega) HX.out _).mono ?_
      rintro e w1 ⟨rfl, hb1⟩
      have HR1 : Hid (w1.heap[w.heap.size + 1]? = some (.cells (intsV (upto l M j)).toArray 3)) := row_on HR.out hb1
      have HP1 : Hid (w1.heap[w.heap.size]? = some (.cells #[.int .i64 (A 0), .int .i64 (A 1), .int .i64 (A 2), .int .i64 (A 3), .int .i64 (A 4), .int .i64 (A 5), .int .i64 (A 6), .int .i64 (A 7), .int .i64 (A 8), .int .i64 (N : Int), .int .i64 (M : Int)] 51)) := row_on HP.out hb1
      have HB1 : Hid (Below w.heap.size w w1) := bel_on (Nat.le_refl _) HB.out hb1
      clear hb1 HR HP HB p
      go_wp2_with (refine listStoreI rfl rfl _ _ _ rfl rfl (w.heap.size + 1) j x rfl rfl HR1.out (by simp [intsV, hul]; omega) ?_)
      intro w2 hput
      have HR2 : Hid (RowAt w2 (w.heap.size + 1) (upto l M (j + 1))) := by have h := hput.1; rw [intsV_put, HU.out] at h; exact h
      have HP2 : Hid (w2.heap[w.heap.size]? = some (.cells #[.int .i64 (A 0), .int .i64 (A 1), .int .i64 (A 2), .int .i64 (A 3), .int .i64 (A 4), .int .i64 (A 5), .int .i64 (A 6), .int .i64 (A 7), .int .i64 (A 8), .int .i64 (N : Int), .int .i64 (M : Int)] 51)) := hput.far HP1.out (by omega)
      have HB2 : Hid (Below w.heap.size w w2) := hput.2.2.2 _ _ (Nat.le_succ _) HB1.out
      clear hput HR1 HP1 HB1 HU HX
      go_wp2
      go_roundg (gk - 1)
      case measure => omega
      case rel => exact ⟨j + 1, by omega, by go_num, HR2, HP2, HB2⟩
    · obtain rfl : j = M := by omega
      have HE : Hid (RowAt wr (w.heap.size + 1) l) := by have h := HR.out; rw [upto_all HL.out] at h; exact h
      clear HR
      go_wp2
      go_ret
      exact ⟨rfl, HE.out, HB.out⟩
/-- eleven numbers stored into a row, as one, in a drawn region -/
theorem storeT_any {ops : Array Oper} {o : Oper} {a : Act} {K : Act → World → Prop} {Q : Exit → Act → World → Prop} {E : Prop} {w : World} (hw : Region.wanted o (yielded ops a.tmps) = true) (hd : o.dst = none) (x y : Operand) (ty : TypeId) (ho : o.op = .store ty x y) (hty : ty = 51)
    (g : Nat) (z0 z1 z2 z3 z4 z5 z6 z7 z8 z9 z10 : Int) (hx : a.eval x = .pointer (some ⟨g, 0, none⟩)) (hy : a.eval y = .agg #[.int .i64 z0, .int .i64 z1, .int .i64 z2, .int .i64 z3, .int .i64 z4, .int .i64 z5, .int .i64 z6, .int .i64 z7, .int .i64 z8, .int .i64 z9, .int .i64 z10])
    {u0 u1 u2 u3 u4 u5 u6 u7 u8 u9 u10 : Value} (hg : w.heap[g]? = some (.cells #[u0, u1, u2, u3, u4, u5, u6, u7, u8, u9, u10] 51))
    (h : ∀ w' : World, PutG w w' g (.cells #[.int .i64 z0, .int .i64 z1, .int .i64 z2, .int .i64 z3, .int .i64 z4, .int .i64 z5, .int .i64 z6, .int .i64 z7, .int .i64 z8, .int .i64 z9, .int .i64 z10] 51) → K a w') : if Region.wanted o (yielded ops a.tmps) = true then Oper.wp Try.prog o a w K Q else E := by
  subst hty
  rw [if_pos hw]
  refine wp_store_row _ x y ho g _ hx hy _ _ hg (by kernel_rfl) rfl (by kernel_rfl) ?_
  rw [hd]
  refine h _ ⟨setRow_heap w g _ _ _ _ hg, fun k hk => setRow_other w g k _ hk, setRow_size w g _, fun B W hB hb => ?_⟩
  exact ⟨hb.os, hb.tape, hb.output, by rw [setRow_size]; exact hb.size, fun k hk => by rw [setRow_other w g k _ (by omega)]; exact hb.block k hk⟩
theorem drop_take {l : List Int} {j n : Nat} (hl : l.length = n) (hn : n ≤ 9) (hj : j < n) (hk : n - 1 - j < l.length) : (l[n - 1 - j] :: l.drop (n - j)).take 9 = l.drop (n - (j + 1)) := by
  have h1 : n - (j + 1) = n - 1 - j := by omega
  have h2 : n - j = n - 1 - j + 1 := by omega
  rw [h1, h2, ← List.drop_eq_getElem_cons hk]
  exact List.take_of_length_le (by simp; omega)
set_option maxRecDepth 100000 in
set_option maxHeartbeats 4000000 in
theorem pastI (a : Option Addr) (l : List Int) (n cap : Nat) (hl : l.length = n) (hn : n ≤ 9) (w : World) (hr : Rd w a l) :
    Calls Try.prog 36 #[.slice a n cap] w fun e w' => ∃ (A : Nat → Int) (N M : Nat), e = .returned (.agg #[.int .i64 (A 0), .int .i64 (A 1), .int .i64 (A 2), .int .i64 (A 3), .int .i64 (A 4), .int .i64 (A 5), .int .i64 (A 6), .int .i64 (A 7), .int .i64 (A 8), .int .i64 (N : Int), .int .i64 (M : Int)]) ∧ Ring l A N M ∧ Below w.heap.size w w' := by
  obtain ⟨h1, h2, h3, h4⟩ := box11b w (.cells #[.int .i64 0, .int .i64 0, .int .i64 0, .int .i64 0, .int .i64 0, .int .i64 0, .int .i64 0, .int .i64 0, .int .i64 0, .int .i64 0, .int .i64 0] 51) (.cells #[.int .i64 0, .int .i64 0, .int .i64 0, .int .i64 0, .int .i64 0, .int .i64 0, .int .i64 0, .int .i64 0, .int .i64 0, .int .i64 0, .int .i64 0] 51)
  have HZ0 : Hid (_ = _) := h1
  have HP0 : Hid (_ = _) := h2
  have HB0 : Hid (Below _ _ _) := h3
  have HL : Hid (l.length = n) := hl
  have HR : Hid (Rd w a l) := hr
  have HG0 : Hid (Ring (l.drop (n - 0)) (fun _ => 0) 0 0) := by
    show Ring _ _ _ _
    rw [List.drop_of_length_le (by omega)]
    exact ring_nil
  clear h1 h2 h3 h4 hl hr
  go_enter Try.func36, Try.ntmps36
  go_wp2
  go_loopg [7] n (fun gk i wr => ∃ (j : Nat) (A : Nat → Int) (N M : Nat), j + gk = n ∧ i = .int .i64 j ∧ Hid (Ring (l.drop (n - j)) A N M) ∧ Hid (wr.heap[w.heap.size]? = some (.cells #[.int .i64 0, .int .i64 0, .int .i64 0, .int .i64 0, .int .i64 0, .int .i64 0, .int .i64 0, .int .i64 0, .int .i64 0, .int .i64 0, .int .i64 0] 51)) ∧ Hid (wr.heap[w.heap.size + 1]? = some (.cells #[.int .i64 (A 0), .int .i64 (A 1), .int .i64 (A 2), .int .i64 (A 3), .int .i64 (A 4), .int .i64 (A 5), .int .i64 (A 6), .int .i64 (A 7), .int .i64 (A 8), .int .i64 (N : Int), .int .i64 (M : Int)] 51)) ∧ Hid (Below w.heap.size w wr))
  case atStart => exact ⟨0, fun _ => 0, 0, 0, by omega, rfl, HG0, HZ0, HP0, HB0⟩
  case round =>
    clear HG0 HZ0 HP0 HB0
    obtain ⟨j, A, N, M, hj, rfl, HG, HZ, HP, HB⟩ := hrel
    by_cases hlt : j < n
    · obtain ⟨k, hk⟩ : ∃ k, n - 1 - j = k := ⟨_, rfl⟩
      have hkl : n - 1 - j < l.length := by have := HL.out; omega
      obtain ⟨b, off, ha, hc⟩ := HR.out (by omega)
      subst ha
      have hcc := hc _ hkl
      obtain ⟨x, hx⟩ : ∃ x, l[n - 1 - j] = x := ⟨_, rfl⟩
      have HD : Hid ((x :: l.drop (n - j)).take 9 = l.drop (n - (j + 1))) := by show _ = _; rw [← hx]; exact drop_take HL.out hn hlt hkl
      rw [hx, hk] at hcc
      have HC : Hid (w.cell? ⟨b, off + k, none⟩ = some (.int .i64 x)) := hcc
      have c1 : wr.cell? ⟨b, off + k, none⟩ = some (.int .i64 x) := (HB.out.cell (p := ⟨b, off + k, none⟩) (World.block_lt_of_cell? w ⟨b, off + k, none⟩ hcc)).trans hcc
      have q1 : IntKind.i64.wrap ((n : Int) - 1) = (n : Int) - 1 := wrap_in (by omega) (by omega)
      have q2 : IntKind.i64.wrap ((n : Int) - 1 - j) = (k : Int) := by rw [wrap_in (by omega) (by omega)]; omega
      have k0 : (0 : Int) ≤ k := by omega
      have kn : (k : Int) < n := by omega
      have kn' : k < n := by omega
      clear hc hcc hx hkl
      go_upto_region 5 with fail
      refine wp_region_held_drew (S := fun w' => w'.cell? ⟨b, off + k, none⟩ = some (.int .i64 x) ∧ Below w.heap.size w w') (by kernel_rfl) ⟨c1, HB.out.drew⟩ (fun hHeld => ?_)
      refine wpAnyH_take (i := 1) (v := ?_) rfl (by kernel_rfl) (by kernel_rfl) (by kernel_rfl) (fun _ _ _ h => h) (Or.inl ⟨by rfl, ?_⟩) (by assumption) ?_
      rotate_left
      · intro w_ hSw; (try dsimp only at hSw); go_simp <;> with_reducible rfl
      try simp only [Act.put, List.setIfInBounds_toArray, List.set_cons_zero, List.set_cons_succ, List.getElem_toArray, List.getElem_cons_zero, List.getElem_cons_succ]
      refine wpAnyH_take (i := 2) (v := ?_) rfl (by kernel_rfl) (by kernel_rfl) (by kernel_rfl) (fun _ _ _ h => h) (Or.inl ⟨by rfl, ?_⟩) (by assumption) ?_
      rotate_left
      · intro w_ hSw; (try dsimp only at hSw); go_simp <;> with_reducible rfl
      try simp only [Act.put, List.setIfInBounds_toArray, List.set_cons_zero, List.set_cons_succ, List.getElem_toArray, List.getElem_cons_zero, List.getElem_cons_succ]
      refine wpAnyH_take (i := 3) (v := ?_) rfl (by kernel_rfl) (by kernel_rfl) (by kernel_rfl) (fun _ _ _ h => h) (Or.inl ⟨by rfl, ?_⟩) (by assumption) ?_
      rotate_left
      · intro w_ hSw; (try dsimp only at hSw); go_simp <;> with_reducible rfl
      try simp only [Act.put, List.setIfInBounds_toArray, List.set_cons_zero, List.set_cons_succ, List.getElem_toArray, List.getElem_cons_zero, List.getElem_cons_succ]
      refine wpAnyH_take (i := 4) (v := ?_) rfl (by kernel_rfl) (by kernel_rfl) (by kernel_rfl) (fun _ _ _ h => h) (Or.inl ⟨by rfl, ?_⟩) (by assumption) ?_
      rotate_left
      · intro w_ hSw; (try dsimp only at hSw); go_simp <;> with_reducible rfl
      try simp only [Act.put, List.setIfInBounds_toArray, List.set_cons_zero, List.set_cons_succ, List.getElem_toArray, List.getElem_cons_zero, List.getElem_cons_succ]
      refine wpAnyH_take (i := 5) (v := ?_) rfl (by kernel_rfl) (by kernel_rfl) (by kernel_rfl) (fun _ _ _ h => h) (Or.inl ⟨by rfl, ?_⟩) (by assumption) ?_
      rotate_left
      · intro w_ hSw; (try dsimp only at hSw); go_simp <;> with_reducible rfl
      try simp only [Act.put, List.setIfInBounds_toArray, List.set_cons_zero, List.set_cons_succ, List.getElem_toArray, List.getElem_cons_zero, List.getElem_cons_succ]
      refine wpAnyH_take (i := 6) (v := ?_) rfl (by kernel_rfl) (by kernel_rfl) (by kernel_rfl) (fun _ _ _ h => h) (Or.inl ⟨by rfl, ?_⟩) (by assumption) ?_
      rotate_left
      · intro w_ hSw; (try dsimp only at hSw); go_simp <;> with_reducible rfl
      try simp only [Act.put, List.setIfInBounds_toArray, List.set_cons_zero, List.set_cons_succ, List.getElem_toArray, List.getElem_cons_zero, List.getElem_cons_succ]
      refine wpAnyH_take (i := 7) (v := ?_) rfl (by kernel_rfl) (by kernel_rfl) (by kernel_rfl) (fun _ _ _ h => h) (Or.inl ⟨by rfl, ?_⟩) (by assumption) ?_
      rotate_left
      · intro w_ hSw; (try dsimp only at hSw); go_simp <;> with_reducible rfl
      try simp only [Act.put, List.setIfInBounds_toArray, List.set_cons_zero, List.set_cons_succ, List.getElem_toArray, List.getElem_cons_zero, List.getElem_cons_succ]
      refine wpAnyH_take (i := 8) (v := ?_) rfl (by kernel_rfl) (by kernel_rfl) (by kernel_rfl) (fun _ _ _ h => h) (Or.inl ⟨by rfl, ?_⟩) (by assumption) ?_
      rotate_left
      · intro w_ hSw; (try dsimp only at hSw); go_simp <;> with_reducible rfl
      try simp only [Act.put, List.setIfInBounds_toArray, List.set_cons_zero, List.set_cons_succ, List.getElem_toArray, List.getElem_cons_zero, List.getElem_cons_succ]
      refine wpAnyH_ready (rs := [0]) (by kernel_rfl) (by simp) ?_
      refine AllReadyH.cons rfl (fun J hJ => ?_) AllReadyH.nil
      have p := row11_cells (w := wr.drew) HP.out
      go_simp
      refine hJ.out _ _ ⟨c1, HB.out.drew⟩ (fun hHeld1 => ?_)
      clear hJ J p
      try simp only [Act.put, List.setIfInBounds_toArray, List.set_cons_zero, List.set_cons_succ, List.getElem_toArray, List.getElem_cons_zero, List.getElem_cons_succ]
      refine wpAnyH_ready (rs := [9]) (by kernel_rfl) (by simp) ?_
      refine AllReadyH.cons rfl (fun J hJ => ?_) AllReadyH.nil
      go_simp
      go_at_call 37
      refine (withI A N M x HG.out.1 HG.out.2.2.1 _).mono ?_
      rintro e v1 ⟨rfl, hbc⟩
      have HB1 : Hid (Below w.heap.size w v1) := bel_on (Nat.le_refl _) HB.out.drew hbc
      have HP1 : Hid (v1.heap[w.heap.size + 1]? = some (.cells #[.int .i64 (A 0), .int .i64 (A 1), .int .i64 (A 2), .int .i64 (A 3), .int .i64 (A 4), .int .i64 (A 5), .int .i64 (A 6), .int .i64 (A 7), .int .i64 (A 8), .int .i64 (N : Int), .int .i64 (M : Int)] 51)) := row_on (w := wr.drew) HP.out hbc
      have HZ1 : Hid (v1.heap[w.heap.size]? = some (.cells #[.int .i64 0, .int .i64 0, .int .i64 0, .int .i64 0, .int .i64 0, .int .i64 0, .int .i64 0, .int .i64 0, .int .i64 0, .int .i64 0, .int .i64 0] 51)) := row_on (w := wr.drew) HZ.out hbc
      have HC1 : Hid (v1.cell? ⟨b, off + k, none⟩ = some (.int .i64 x)) := (HB1.out.cell (p := ⟨b, off + k, none⟩) (World.block_lt_of_cell? w ⟨b, off + k, none⟩ HC.out)).trans HC.out
      obtain ⟨A', hA'⟩ : ∃ A', putA A N x = A' := ⟨_, rfl⟩
      obtain ⟨N', hN'⟩ : ∃ N', (N + 1) % 9 = N' := ⟨_, rfl⟩
      obtain ⟨M', hM'⟩ : ∃ M', min (M + 1) 9 = M' := ⟨_, rfl⟩
      have HG' : Hid (Ring (l.drop (n - (j + 1))) A' N' M') := by
        have h := ring_put HG.out x
        rw [hA', hN', hM', HD.out] at h
        exact h
      rw [hA', hN', hM']
      clear hbc HB HP HZ HG c1
      go_wp2_with fail
      refine hJ.out _ _ ⟨HC1.out, HB1.out⟩ (fun hHeld2 => ?_)
      clear hJ J hHeld hHeld1
      try simp only [Act.put, List.setIfInBounds_toArray, List.set_cons_zero, List.set_cons_succ, List.getElem_toArray, List.getElem_cons_zero, List.getElem_cons_succ]
      refine wpAnyH_ready (rs := [10]) (by kernel_rfl) (by simp) ?_
      refine AllReadyH.cons rfl (fun J hJ => ?_) AllReadyH.nil
      refine storeT_any rfl rfl _ _ _ rfl rfl (w.heap.size + 1) (A' 0) (A' 1) (A' 2) (A' 3) (A' 4) (A' 5) (A' 6) (A' 7) (A' 8) N' M' rfl rfl HP1.out ?_
      intro w2 hput
      have HB2 : Hid (Below w.heap.size w w2) := hput.2.2.2 _ _ (Nat.le_succ _) HB1.out
      have HP2 : Hid (w2.heap[w.heap.size + 1]? = some (.cells #[.int .i64 (A' 0), .int .i64 (A' 1), .int .i64 (A' 2), .int .i64 (A' 3), .int .i64 (A' 4), .int .i64 (A' 5), .int .i64 (A' 6), .int .i64 (A' 7), .int .i64 (A' 8), .int .i64 (N' : Int), .int .i64 (M' : Int)] 51)) := hput.1
      have HZ2 : Hid (w2.heap[w.heap.size]? = some (.cells #[.int .i64 0, .int .i64 0, .int .i64 0, .int .i64 0, .int .i64 0, .int .i64 0, .int .i64 0, .int .i64 0, .int .i64 0, .int .i64 0, .int .i64 0] 51)) := hput.far HZ1.out (by omega)
      have HC2 : Hid (w2.cell? ⟨b, off + k, none⟩ = some (.int .i64 x)) := (HB2.out.cell (p := ⟨b, off + k, none⟩) (World.block_lt_of_cell? w ⟨b, off + k, none⟩ HC.out)).trans HC.out
      clear hput HB1 HP1 HZ1 HC1
      refine hJ.out _ _ ⟨HC2.out, HB2.out⟩ (fun hHeld3 => ?_)
      clear hJ J hHeld2
      try simp only [Act.put, List.setIfInBounds_toArray, List.set_cons_zero, List.set_cons_succ, List.getElem_toArray, List.getElem_cons_zero, List.getElem_cons_succ]
      refine wpAnyH_done (by kernel_rfl) ?_ _
      clear hHeld3 HC2 HC
      go_wp2
      go_roundg (gk - 1)
      case measure => omega
      case rel => exact ⟨j + 1, A', N', M', by omega, by go_num, HG', HZ2, HP2, HB2⟩
    · obtain rfl : j = n := by omega
      have HE : Hid (Ring l A N M) := by have h := HG.out; rw [Nat.sub_self, List.drop_zero] at h; exact h
      have p := row11_cells HP.out
      clear HG
      go_upto_region 7 with fail
      go_wp2_with (refine listStoreT rfl rfl _ _ _ rfl rfl w.heap.size (A 0) (A 1) (A 2) (A 3) (A 4) (A 5) (A 6) (A 7) (A 8) N M rfl rfl HZ.out ?_)
      intro w2 hput
      have HB2 : Hid (Below w.heap.size w w2) := hput.2.2.2 _ _ (Nat.le_refl _) HB.out
      have z := row11_cells hput.1
      clear hput
      go_wp2
      refine bodyPost_ret (v := .agg #[.int .i64 (A 0), .int .i64 (A 1), .int .i64 (A 2), .int .i64 (A 3), .int .i64 (A 4), .int .i64 (A 5), .int .i64 (A 6), .int .i64 (A 7), .int .i64 (A 8), .int .i64 (N : Int), .int .i64 (M : Int)]) (by simp only [results, Try.results36]; simp [go_sem, z]) rfl ⟨A, N, M, rfl, HE.out, HB2.out⟩
end Go.Proofs.Ytgpdkodnggpkeaa
