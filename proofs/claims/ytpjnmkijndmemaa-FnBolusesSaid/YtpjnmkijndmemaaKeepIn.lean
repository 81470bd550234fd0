/-
  FnKeepsOpen over bytes that are few enough.
-/
import Derived.Test.YtpjnmkijndmemaaPmL
namespace Go.Proofs.Ytpjnmkijndmemaa
open Go.RowKit Go.PlainAid
set_option linter.unusedVariables false
set_option linter.unusedSimpArgs false

theorem pm_eq {s n d r l b g k s' n' d' r' l' b' g' k' : Int} (h1 : s = s') (h2 : n = n') (h3 : d = d') (h4 : r = r') (h5 : l = l') (h6 : b = b') (h7 : g = g') (h8 : k = k') : (⟨s, n, d, r, l, b, g, k⟩ : Pm) = ⟨s', n', d', r', l', b', g', k'⟩ := by subst h1 h2 h3 h4 h5 h6 h7 h8; rfl
def keepP (j : Nat) : Pm := ⟨2, 1, 50, (j : Int) % 50, 0, 0, 1 + (j : Int) / 50, 0⟩
theorem keep_ok (j : Nat) (h : j ≤ 300) : (keepP j).ok := by
  unfold Pm.ok ratR keepP
  dsimp only
  omega
theorem keep_wants (j : Nat) (h : j ≤ 300) : (keepP j).wants = ((j : Int) % 50 + 1) / 50 := by
  rw [wants_run (keep_ok j h) (.inr rfl)]
  unfold Pm.base Pm.rate keepP
  simp
  omega
theorem keep_step (j : Nat) (h : j ≤ 300) : (keepP j).give (keepP j).wants = keepP (j + 1) := by
  unfold Pm.give
  rw [if_pos ⟨ok_yes (keep_ok j h), .inr rfl⟩]
  unfold Pm.giveR
  rw [keep_wants j h]
  unfold keepP
  dsimp only
  rw [if_neg (by simp)]
  refine pm_eq rfl rfl rfl ?_ ?_ ?_ ?_ rfl <;> ((try dsimp only); (try rw [if_neg (by decide)]); (try omega))
theorem take_first : newP.take 1 1 1 1 = (⟨1, 1, 1, 0, 1, 0, 0, 0⟩, true) := by
  unfold Pm.take
  rw [if_pos ⟨ok_yes new_ok, or_yes (by unfold OrdR; omega)⟩]
  rfl
theorem give_first : Pm.give ⟨1, 1, 1, 0, 1, 0, 0, 0⟩ 1 = keepP 0 := by
  rfl

set_option maxRecDepth 100000 in
set_option maxHeartbeats 4000000 in
theorem keeps_in (a : Option Addr) (len cap : Nat) (hb : len ≤ 1048576) (w : World) (hcode : CodeOk w w.heap.size a len) :
    Calls Try.prog 5 #[.slice a len cap] w fun e w' => e = .returned (.bool true) ∧ Below w.heap.size w w' := by
  have HC : Hid (CodeOk w w.heap.size a len) := hcode
  have K1 : Hid (∀ w, Calls Try.prog 24 #[] w fun e w' => e = .returned (.agg #[.int .i64 0, .int .i64 0, .int .i64 1, .int .i64 0, .int .i64 0, .int .i64 0, .int .i64 0, .int .i64 0]) ∧ Below w.heap.size w w') := fun w => newI w
  have K2 : Hid (∀ w, Calls Try.prog 16 #[.agg #[.int .i64 0, .int .i64 0, .int .i64 1, .int .i64 0, .int .i64 0, .int .i64 0, .int .i64 0, .int .i64 0], .agg #[.int .i64 1, .int .i64 1, .int .i64 1, .int .i64 1]] w fun e w' => e = .returned (.tuple #[.agg #[.int .i64 1, .int .i64 1, .int .i64 1, .int .i64 0, .int .i64 1, .int .i64 0, .int .i64 0, .int .i64 0], .bool true]) ∧ Below w.heap.size w w') := fun w => by
    have h := takeI newP 1 1 1 1 w
    rw [take_first] at h
    exact h
  have K3 : Hid (∀ w, Calls Try.prog 19 #[.agg #[.int .i64 1, .int .i64 1, .int .i64 1, .int .i64 0, .int .i64 1, .int .i64 0, .int .i64 0, .int .i64 0], .int .i64 1] w fun e w' => e = .returned (.agg #[.int .i64 2, .int .i64 1, .int .i64 50, .int .i64 0, .int .i64 0, .int .i64 0, .int .i64 1, .int .i64 0]) ∧ Below w.heap.size w w') := fun w => by
    have h := giveI ⟨1, 1, 1, 0, 1, 0, 0, 0⟩ 1 w
    rw [give_first] at h
    exact h
  clear hcode
  go_enter Try.func5, Try.ntmps5
  go_wp2_with fail
  refine (big5 a len cap (by omega) _).mono ?_
  rintro e w1 ⟨rfl, rfl⟩
  rw [decide_eq_false (by omega)]
  go_wp2_with fail
  refine Calls.mono (K1.out _) ?_
  rintro e w2 ⟨rfl, hb2⟩
  have HN2 : Hid ((w2.alloc (.cells #[.int .i64 0, .int .i64 0, .int .i64 0, .int .i64 0, .int .i64 0, .int .i64 0, .int .i64 0, .int .i64 0] 27)).heap[w2.heap.size]? = some (.cells #[.int .i64 0, .int .i64 0, .int .i64 0, .int .i64 0, .int .i64 0, .int .i64 0, .int .i64 0, .int .i64 0] 27)) := heap_new w2 _
  have HBa : Hid (Below w1.heap.size w1 (w2.alloc (.cells #[.int .i64 0, .int .i64 0, .int .i64 0, .int .i64 0, .int .i64 0, .int .i64 0, .int .i64 0, .int .i64 0] 27))) := bel_on (Nat.le_refl _) hb2 (alP _ _)
  have hl2 := hb2.size
  clear hb2 K1
  go_wp2_with (refine listStoreP rfl rfl _ _ _ rfl rfl w2.heap.size (0) (0) (1) (0) (0) (0) (0) (0) rfl rfl HN2.out ?_)
  intro w3 hr3 ho3 hs3 hB3
  have HB3 : Hid (Below w1.heap.size w1 w3) := hB3 _ _ hl2 HBa.out
  obtain ⟨B, hB⟩ : ∃ B, w2.heap.size = B := ⟨_, rfl⟩
  rw [hB] at hr3 hl2
  have HP3 : Hid (w3.heap[B]? = some (.cells #[.int .i64 0, .int .i64 0, .int .i64 1, .int .i64 0, .int .i64 0, .int .i64 0, .int .i64 0, .int .i64 0] 27)) := hr3
  have HLe : Hid (w1.heap.size ≤ B) := hl2
  have p3 := box8_cells HP3.out
  rw [hB]
  clear hr3 ho3 hs3 hB3 hB HN2 HBa
  go_wp2_with fail
  refine Calls.mono (K2.out _) ?_
  rintro e w4 ⟨rfl, hb4⟩
  have HB4 : Hid (Below w1.heap.size w1 w4) := bel_on (Nat.le_refl _) HB3.out hb4
  have HP4 : Hid (w4.heap[B]? = some (.cells #[.int .i64 0, .int .i64 0, .int .i64 1, .int .i64 0, .int .i64 0, .int .i64 0, .int .i64 0, .int .i64 0] 27)) := row_on HP3.out hb4
  clear hb4 HB3 HP3 p3 K2
  go_wp2_with (refine listStoreP rfl rfl _ _ _ rfl rfl B (1) (1) (1) (0) (1) (0) (0) (0) rfl rfl HP4.out ?_)
  intro w5 hr5 ho5 hs5 hB5
  have HB5 : Hid (Below w1.heap.size w1 w5) := hB5 _ _ hl2 HB4.out
  have HP5 : Hid (w5.heap[B]? = some (.cells #[.int .i64 1, .int .i64 1, .int .i64 1, .int .i64 0, .int .i64 1, .int .i64 0, .int .i64 0, .int .i64 0] 27)) := hr5
  have p5 := box8_cells HP5.out
  clear hr5 ho5 hs5 hB5 HB4 HP4
  go_wp2_with fail
  refine Calls.mono (K3.out _) ?_
  rintro e w6 ⟨rfl, hb6⟩
  have HB6 : Hid (Below w1.heap.size w1 w6) := bel_on (Nat.le_refl _) HB5.out hb6
  have HP6 : Hid (w6.heap[B]? = some (.cells #[.int .i64 1, .int .i64 1, .int .i64 1, .int .i64 0, .int .i64 1, .int .i64 0, .int .i64 0, .int .i64 0] 27)) := row_on HP5.out hb6
  clear hb6 HB5 HP5 p5 K3
  go_wp2_with (refine listStoreP rfl rfl _ _ _ rfl rfl B (2) (1) (50) (0) (0) (0) (1) (0) rfl rfl HP6.out ?_)
  intro w7 hr7 ho7 hs7 hB7
  have HB7 : Hid (Below w1.heap.size w1 w7) := hB7 _ _ hl2 HB6.out
  have HP7 : Hid (w7.heap[B]? = some (.cells #[.int .i64 2, .int .i64 1, .int .i64 50, .int .i64 0, .int .i64 0, .int .i64 0, .int .i64 1, .int .i64 0] 27)) := hr7
  clear hr7 ho7 hs7 hB7 HB6 HP6
  go_wp2_with fail
  refine (places7 w1.heap.size a len cap _ (code_below HC.out HB7.out) HB7.out.size).mono ?_
  rintro e w8 ⟨g, cp, p0, p1, p2, p3, rfl, hp0, _, _, _, hg, c0, _, _, _, _, hb8⟩
  have HB8 : Hid (Below w1.heap.size w1 w8) := bel_on (Nat.le_refl _) HB7.out hb8
  have HP8 : Hid (w8.heap[B]? = some (.cells #[.int .i64 2, .int .i64 1, .int .i64 50, .int .i64 (((0 : Nat) : Int) % 50), .int .i64 0, .int .i64 0, .int .i64 (1 + ((0 : Nat) : Int) / 50), .int .i64 0] 27)) := row_on HP7.out hb8
  obtain ⟨m, hm⟩ : ∃ m : Nat, (m : Int) = p0 % 300 := ⟨(p0 % 300).toNat, by omega⟩
  have hmt : p0.tmod 300 = (m : Int) := by rw [Int.tmod_eq_emod_of_nonneg hp0.1]; exact hm.symm
  have hm3 : m < 300 := by omega
  have hm' : p0 % 300 = (m : Int) := hm.symm
  clear hb8 HB7 HP7 hp0 hm HC hg
  go_wp2
  clear c0 hmt hm'
  go_loopg [5] m (fun gk i wr => ∃ j : Nat, j + gk = m ∧ i = .int .i64 j ∧ Hid (wr.heap[B]? = some (.cells #[.int .i64 2, .int .i64 1, .int .i64 50, .int .i64 (((j : Nat) : Int) % 50), .int .i64 0, .int .i64 0, .int .i64 (1 + ((j : Nat) : Int) / 50), .int .i64 0] 27)) ∧ Hid (Below w1.heap.size w1 wr))
  case atStart => exact ⟨0, by omega, rfl, HP8, HB8⟩
  case round =>
    clear HP8 HB8
    obtain ⟨j, hj, rfl, HPr, HBe⟩ := hrel
    by_cases hlt : j < m
    · have hlt' : (j : Int) < (m : Int) := by omega
      have KW : Hid (∀ w, Calls Try.prog 22 #[.agg #[.int .i64 2, .int .i64 1, .int .i64 50, .int .i64 (((j : Nat) : Int) % 50), .int .i64 0, .int .i64 0, .int .i64 (1 + ((j : Nat) : Int) / 50), .int .i64 0]] w fun e w' => e = .returned (.int .i64 (((j : Int) % 50 + 1) / 50)) ∧ Below w.heap.size w w') := fun w => by
        have h := wantsI (keepP j) w
        rw [keep_wants j (by omega)] at h
        exact h
      have KG : Hid (∀ w, Calls Try.prog 19 #[.agg #[.int .i64 2, .int .i64 1, .int .i64 50, .int .i64 (((j : Nat) : Int) % 50), .int .i64 0, .int .i64 0, .int .i64 (1 + ((j : Nat) : Int) / 50), .int .i64 0], .int .i64 (((j : Int) % 50 + 1) / 50)] w fun e w' => e = .returned (.agg #[.int .i64 2, .int .i64 1, .int .i64 50, .int .i64 (((j + 1 : Nat) : Int) % 50), .int .i64 0, .int .i64 0, .int .i64 (1 + ((j + 1 : Nat) : Int) / 50), .int .i64 0]) ∧ Below w.heap.size w w') := fun w => by
        have h := giveI (keepP j) (((j : Int) % 50 + 1) / 50) w
        rw [← keep_wants j (by omega), keep_step j (by omega)] at h
        rw [← keep_wants j (by omega)]
        exact h
      obtain ⟨R, hR⟩ : ∃ R, (j : Int) % 50 = R := ⟨_, rfl⟩
      obtain ⟨G, hG⟩ : ∃ G, 1 + (j : Int) / 50 = G := ⟨_, rfl⟩
      obtain ⟨W, hW⟩ : ∃ W, (R + 1) / 50 = W := ⟨_, rfl⟩
      obtain ⟨R2, hR2⟩ : ∃ R2, ((j + 1 : Nat) : Int) % 50 = R2 := ⟨_, rfl⟩
      obtain ⟨G2, hG2⟩ : ∃ G2, 1 + ((j + 1 : Nat) : Int) / 50 = G2 := ⟨_, rfl⟩
      rw [hR, hG] at HPr
      rw [hR, hG, hW] at KW
      rw [hR, hG, hW, hR2, hG2] at KG
      have HR2 : Hid (((j + 1 : Nat) : Int) % 50 = R2) := hR2
      have HG2 : Hid (1 + ((j + 1 : Nat) : Int) / 50 = G2) := hG2
      have qi : IntKind.i64.wrap ((j : Int) + 1) = (j : Int) + 1 := wrap_in (by omega) (by omega)
      clear hR hG hW hR2 hG2
      go_upto_region 10 with fail
      refine wp_region_held_drew (S := fun w' => True) (by kernel_rfl) trivial (fun hHeld => ?_)
      refine wpAnyH_named (fun a0 ha0 => ?_)
      have HA0 : Hid (a0 = _) := ha0
      clear ha0
      refine any_states (σ := Bool × Fin 3) (fun s => #[s.1, decide (0 < s.2), decide (1 < s.2), false, false]) (fun s => (if s.1 = true then [] else [0]) ++ (if s.2 = 0 then [1] else []) ++ (if s.2 = 1 then [2] else [])) (fun s => 2 + (if s.1 then 0 else 1) + (2 - s.2.val)) (fun s => true) (fun s => decide (s.2 = 2) && s.1) (fun q a w_ => ∃ t0 t1 t2 : Value, a = ((a0.put (some 27) t0).put (some 28) t1).put (some 29) t2 ∧ PG (B) (w1.heap.size) w1 (2) (1) (50) (R) (0) (0) (G) (0) (W) q.1 q.2 t0 t1 t2 w_) ?_ ?_ ?_ 5 (false, 0) _ _ _ (by decide) (by decide) (by decide) trivial ⟨a0.tmps.getD 27 undef, a0.tmps.getD 28 undef, a0.tmps.getD 29 undef, (by simp only [put_self]), ⟨fun h => absurd h (by simp), fun h => absurd h (by simp), fun h => absurd h (by simp), HPr.out, HBe.out.drew, HLe.out⟩⟩
      · rintro ⟨x, c⟩
        dsimp only
        revert x c
        decide +kernel
      · rintro ⟨x, c⟩ i hok hfin hi
        dsimp only at hok hfin hi
        simp only [List.mem_append, mem_ifn, mem_ifc] at hi
        rcases hi with (hi | hi) | hi
        · obtain ⟨hx, rfl⟩ := hi
          subst hx
          refine ⟨(true, c), rfl, rfl, ?_, ?_⟩
          · clear hfin hok; revert c; decide +kernel
          rintro a w_ hSw ⟨t0, t1, t2, rfl, hn⟩
          dsimp only at hn ⊢
          refine wpOp_step (i := 0) rfl (fun K hK => ?_)
          have HK : Shut _ := hK
          clear hK
          rw [HA0.out]
          simp only [Act.put, List.setIfInBounds_toArray, List.set_cons_zero, List.set_cons_succ]
          have kk := box8_cells hn.row
          go_simp
          exact HK.out _ _ ⟨trivial, _, t1, t2, (by rw [HA0.out]; simp only [Act.put, List.setIfInBounds_toArray, List.set_cons_zero, List.set_cons_succ]), ⟨fun _ => rfl, hn.c1, hn.c2, hn.row, hn.bel, hn.lt⟩⟩
        · obtain ⟨rfl, rfl⟩ := hi
          refine ⟨(x, 1), rfl, rfl, ?_, ?_⟩
          · clear hfin hok; revert x; decide +kernel
          rintro a w_ hSw ⟨t0, t1, t2, rfl, hn⟩
          dsimp only at hn ⊢
          refine wpOp_step (i := 1) rfl (fun K hK => ?_)
          have HK : Shut _ := hK
          clear hK
          rw [HA0.out]
          simp only [Act.put, List.setIfInBounds_toArray, List.set_cons_zero, List.set_cons_succ]
          have kk := box8_cells hn.row
          go_simp
          exact HK.out _ _ ⟨trivial, t0, _, t2, (by rw [HA0.out]; simp only [Act.put, List.setIfInBounds_toArray, List.set_cons_zero, List.set_cons_succ]), ⟨hn.x, fun _ => rfl, fun h => absurd h (by decide), hn.row, hn.bel, hn.lt⟩⟩
        · obtain ⟨rfl, rfl⟩ := hi
          refine ⟨(x, 2), rfl, rfl, ?_, ?_⟩
          · clear hfin hok; revert x; decide +kernel
          rintro a w_ hSw ⟨t0, t1, t2, rfl, hn⟩
          dsimp only at hn ⊢
          refine wpOp_step (i := 2) rfl (fun K hK => ?_)
          have HK : Shut _ := hK
          clear hK
          rw [HA0.out]
          simp only [Act.put, List.setIfInBounds_toArray, List.set_cons_zero, List.set_cons_succ]
          obtain rfl := hn.c1 (by decide)
          go_simp
          go_at_call 22
          refine Calls.mono (KW.out _) ?_
          rintro e w2 ⟨rfl, hb2⟩
          have hn2 := hn.on hb2
          go_wp2_with fail
          exact HK.out _ _ ⟨trivial, t0, _, _, (by rw [HA0.out]; simp only [Act.put, List.setIfInBounds_toArray, List.set_cons_zero, List.set_cons_succ]), ⟨hn2.x, fun _ => rfl, fun _ => rfl, hn2.row, hn2.bel, hn2.lt⟩⟩
      · rintro ⟨x, c⟩ a w_ f2 hok hfin hf hSw ⟨t0, t1, t2, rfl, hn⟩
        dsimp only at hok hfin hf hn ⊢
        obtain ⟨rfl, rfl⟩ : c = 2 ∧ x = true := by simpa using hfin
        obtain ⟨f3, rfl⟩ : ∃ f3, f2 = f3 + 2 := ⟨f2 - 2, by have h3 : 2 ≤ f2 := (by first | exact hf | simpa using hf); omega⟩
        obtain rfl := hn.x rfl
        obtain rfl := hn.c1 (by decide)
        obtain rfl := hn.c2 rfl
        rw [HA0.out]
        simp only [Act.put, List.setIfInBounds_toArray, List.set_cons_zero, List.set_cons_succ]
        refine wpAnyH_ready (rs := [3]) (by kernel_rfl) (by simp) ?_
        refine AllReadyH.cons rfl (fun K hK => ?_) AllReadyH.nil
        go_simp
        go_at_call 19
        refine Calls.mono (KG.out _) ?_
        rintro e w8 ⟨rfl, hb8⟩
        have hn8 := hn.on hb8
        go_wp2_with fail
        refine hK.out _ _ trivial (fun hHeld2 => ?_)
        clear hK K
        simp only [Act.put, List.setIfInBounds_toArray, List.set_cons_zero, List.set_cons_succ]
        refine wpAnyH_ready (rs := [4]) (by kernel_rfl) (by simp) ?_
        refine AllReadyH.cons rfl (fun K hK => ?_) AllReadyH.nil
        have kk := box8_cells hn8.row
        go_simp
        have HPn : Hid (((((((((w8.setCell ⟨B, 0, none⟩ (.int .i64 2)).setCell ⟨B, 1, none⟩ (.int .i64 1)).setCell ⟨B, 2, none⟩ (.int .i64 50)).setCell ⟨B, 3, none⟩ (.int .i64 R2)).setCell ⟨B, 4, none⟩ (.int .i64 0)).setCell ⟨B, 5, none⟩ (.int .i64 0)).setCell ⟨B, 6, none⟩ (.int .i64 G2)).setCell ⟨B, 7, none⟩ (.int .i64 0)).heap[B]? = some (.cells #[.int .i64 2, .int .i64 1, .int .i64 50, .int .i64 R2, .int .i64 0, .int .i64 0, .int .i64 G2, .int .i64 0] 27)) := set8_row (2) (1) (50) (R2) (0) (0) (G2) (0) hn8.row
        have HBn : Hid (Below (w1.heap.size) w1 ((((((((w8.setCell ⟨B, 0, none⟩ (.int .i64 2)).setCell ⟨B, 1, none⟩ (.int .i64 1)).setCell ⟨B, 2, none⟩ (.int .i64 50)).setCell ⟨B, 3, none⟩ (.int .i64 R2)).setCell ⟨B, 4, none⟩ (.int .i64 0)).setCell ⟨B, 5, none⟩ (.int .i64 0)).setCell ⟨B, 6, none⟩ (.int .i64 G2)).setCell ⟨B, 7, none⟩ (.int .i64 0))) := set8_bel (2) (1) (50) (R2) (0) (0) (G2) (0) hn8.bel hn8.lt
        refine hK.out _ _ trivial (fun hHeld3 => ?_)
        clear hK K hHeld2 hHeld3 hn hn8 hb8 kk
        simp only [Act.put, List.setIfInBounds_toArray, List.set_cons_zero, List.set_cons_succ]
        refine wpAnyH_done (by kernel_rfl) ?_ _
        generalize ((((((((w8.setCell ⟨B, 0, none⟩ (.int .i64 2)).setCell ⟨B, 1, none⟩ (.int .i64 1)).setCell ⟨B, 2, none⟩ (.int .i64 50)).setCell ⟨B, 3, none⟩ (.int .i64 R2)).setCell ⟨B, 4, none⟩ (.int .i64 0)).setCell ⟨B, 5, none⟩ (.int .i64 0)).setCell ⟨B, 6, none⟩ (.int .i64 G2)).setCell ⟨B, 7, none⟩ (.int .i64 0)) = w9 at *
        clear HPr HBe KW KG
        rw [← HR2.out, ← HG2.out] at HPn
        go_wp2
        go_roundg (gk - 1)
        case measure => omega
        case rel => exact ⟨j + 1, by omega, by go_num, HPn, HBn⟩
    · obtain rfl : j = m := by omega
      have pr := box8_cells HPr.out
      have e1 : (j : Int).tdiv 50 = (j : Int) / 50 := Int.tdiv_eq_ediv_of_nonneg (by omega)
      have e2 : (j : Int).tmod 50 = (j : Int) % 50 := Int.tmod_eq_emod_of_nonneg (by omega)
      go_wp2
      go_ret
      exact ⟨by simp, HBe.out⟩
end Go.Proofs.Ytpjnmkijndmemaa
