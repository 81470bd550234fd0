/-
  FnBoluses over bytes that are few enough.
-/
import Derived.Test.YtpjnmkijndmemaaKeepIn
namespace Go.Proofs.Ytpjnmkijndmemaa
open Go.RowKit Go.PlainAid
set_option linter.unusedVariables false
set_option linter.unusedSimpArgs false

def bolP (v : Int) (j : Nat) : Pm := ⟨1, 1, 1000, (j : Int), 5, max (v - 3 * (j : Int)) 0, min (3 * (j : Int)) v, 0⟩
theorem bol_ok {v : Int} (h : 1 ≤ v ∧ v ≤ 100) (j : Nat) (hj : j ≤ 40) : (bolP v j).ok := by
  unfold Pm.ok ratR bolP
  dsimp only
  omega
theorem bol_wants {v : Int} (h : 1 ≤ v ∧ v ≤ 100) (j : Nat) (hj : j ≤ 40) : (bolP v j).wants = min (max (v - 3 * (j : Int)) 0) 3 := by
  rw [wants_run (bol_ok h j hj) (.inl rfl)]
  unfold Pm.base Pm.rate bolP
  have e : ((j : Int) + 1) / 1000 = 0 := Int.ediv_eq_zero_of_lt (by omega) (by omega)
  simp [e]
  omega
theorem bol_step {v : Int} (h : 1 ≤ v ∧ v ≤ 100) (j : Nat) (hj : j ≤ 40) : (bolP v j).give (bolP v j).wants = bolP v (j + 1) := by
  unfold Pm.give
  rw [if_pos ⟨ok_yes (bol_ok h j hj), .inl rfl⟩]
  unfold Pm.giveR
  rw [bol_wants h j hj]
  unfold bolP
  dsimp only
  obtain ⟨m, hm⟩ : ∃ m, max (min (min (max (v - 3 * (j : Int)) 0) 3) (min (max (v - 3 * (j : Int)) 0) 3)) 0 = m := ⟨_, rfl⟩
  have e : ((j : Int) + 1) % 1000 = (j : Int) + 1 := Int.emod_eq_of_lt (by omega) (by omega)
  rw [hm, e]
  have hm' : m = min (max (v - 3 * (j : Int)) 0) 3 := by omega
  have hc : min m (min (max (v - 3 * (j : Int)) 0) 3) = m := by omega
  rw [hc, if_pos rfl]
  rw [if_neg (by intro hh; have := hh.2; omega)]
  refine pm_eq rfl rfl rfl ?_ ?_ ?_ ?_ rfl <;> (push_cast; omega)
theorem bol_first : newP.take 1 1 1000 5 = (⟨1, 1, 1000, 0, 5, 0, 0, 0⟩, true) := by
  unfold Pm.take
  rw [if_pos ⟨ok_yes new_ok, or_yes (by unfold OrdR; omega)⟩]
  rfl
theorem bol_early : newP.take 2 0 0 5 = (newP, false) := by
  unfold Pm.take
  rw [if_pos ⟨ok_yes new_ok, or_yes (by unfold OrdR; omega)⟩]
  rfl
theorem bol_p0 : Pm.ok ⟨1, 1, 1000, 0, 5, 0, 0, 0⟩ := by
  unfold Pm.ok ratR
  simp
theorem bol_take {v : Int} (h : 1 ≤ v ∧ v ≤ 100) : Pm.take ⟨1, 1, 1000, 0, 5, 0, 0, 0⟩ 2 0 0 v = (⟨1, 1, 1000, 0, 5, v, 0, 0⟩, true) := by
  unfold Pm.take
  rw [if_pos ⟨ok_yes bol_p0, or_yes (by unfold OrdR; omega)⟩]
  simp
theorem bol_zero {v : Int} (h : 1 ≤ v ∧ v ≤ 100) : bolP v 0 = ⟨1, 1, 1000, 0, 5, v, 0, 0⟩ := by
  unfold bolP
  refine pm_eq rfl rfl rfl ?_ rfl ?_ ?_ rfl <;> (simp; try omega)
theorem bol_twice {v : Int} (h : 1 ≤ v ∧ v ≤ 100) : Pm.take ⟨1, 1, 1000, 0, 5, v, 0, 0⟩ 2 0 0 1 = (⟨1, 1, 1000, 0, 5, v, 0, 0⟩, false) := by
  have hp : Pm.ok ⟨1, 1, 1000, 0, 5, v, 0, 0⟩ := by rw [← bol_zero h]; exact bol_ok h 0 (by omega)
  have hv : 0 < v := by omega
  unfold Pm.take
  rw [if_pos ⟨ok_yes hp, or_yes (by unfold OrdR; omega)⟩]
  simp [hv]

set_option maxRecDepth 100000 in
set_option maxHeartbeats 20000000 in
theorem bols_in (a : Option Addr) (len cap : Nat) (hb : len ≤ 1048576) (w : World) (hcode : CodeOk w w.heap.size a len) :
    Calls Try.prog 6 #[.slice a len cap] w fun e w' => e = .returned (.bool true) ∧ Below w.heap.size w w' := by
  have HC : Hid (CodeOk w w.heap.size a len) := hcode
  have K1 : Hid (∀ w, Calls Try.prog 24 #[] w fun e w' => e = .returned (.agg #[.int .i64 0, .int .i64 0, .int .i64 1, .int .i64 0, .int .i64 0, .int .i64 0, .int .i64 0, .int .i64 0]) ∧ Below w.heap.size w w') := fun w => newI w
  have K2 : Hid (∀ w, Calls Try.prog 16 #[.agg #[.int .i64 0, .int .i64 0, .int .i64 1, .int .i64 0, .int .i64 0, .int .i64 0, .int .i64 0, .int .i64 0], .agg #[.int .i64 1, .int .i64 1, .int .i64 1000, .int .i64 5]] w fun e w' => e = .returned (.tuple #[.agg #[.int .i64 1, .int .i64 1, .int .i64 1000, .int .i64 0, .int .i64 5, .int .i64 0, .int .i64 0, .int .i64 0], .bool true]) ∧ Below w.heap.size w w') := fun w => by
    have h := takeI newP 1 1 1000 5 w
    rw [bol_first] at h
    exact h
  have K3 : Hid (∀ w, Calls Try.prog 16 #[.agg #[.int .i64 0, .int .i64 0, .int .i64 1, .int .i64 0, .int .i64 0, .int .i64 0, .int .i64 0, .int .i64 0], .agg #[.int .i64 2, .int .i64 0, .int .i64 0, .int .i64 5]] w fun e w' => e = .returned (.tuple #[.agg #[.int .i64 0, .int .i64 0, .int .i64 1, .int .i64 0, .int .i64 0, .int .i64 0, .int .i64 0, .int .i64 0], .bool false]) ∧ Below w.heap.size w w') := fun w => by
    have h := takeI newP 2 0 0 5 w
    rw [bol_early] at h
    exact h
  clear hcode
  go_enter Try.func6, Try.ntmps6
  go_wp2_with fail
  refine (big5 a len cap (by omega) _).mono ?_
  rintro e w1 ⟨rfl, rfl⟩
  rw [decide_eq_false (by omega)]
  go_wp2_with fail
  refine (places7 w1.heap.size a len cap _ HC.out (Nat.le_refl _)).mono ?_
  rintro e w2 ⟨g, cp, p0, p1, p2, p3, rfl, hp0, _, _, _, hg, c0, _, _, _, hgl, hb2⟩
  have HB2 : Hid (Below w1.heap.size w1 w2) := hb2
  obtain ⟨v, hv⟩ : ∃ v, 1 + p0 % 100 = v := ⟨_, rfl⟩
  have hv1 : 1 ≤ v ∧ v ≤ 100 := by omega
  have hvt : p0.tmod 100 = p0 % 100 := Int.tmod_eq_emod_of_nonneg hp0.1
  have HG2 : Hid (w2.cell? ⟨g, 0, none⟩ = some (.int .i64 p0)) := c0
  have K4 : Hid (∀ w, Calls Try.prog 16 #[.agg #[.int .i64 1, .int .i64 1, .int .i64 1000, .int .i64 0, .int .i64 5, .int .i64 0, .int .i64 0, .int .i64 0], .agg #[.int .i64 2, .int .i64 0, .int .i64 0, .int .i64 v]] w fun e w' => e = .returned (.tuple #[.agg #[.int .i64 1, .int .i64 1, .int .i64 1000, .int .i64 0, .int .i64 5, .int .i64 v, .int .i64 0, .int .i64 0], .bool true]) ∧ Below w.heap.size w w') := fun w => by
    have h := takeI ⟨1, 1, 1000, 0, 5, 0, 0, 0⟩ 2 0 0 v w
    rw [bol_take hv1] at h
    exact h
  have K5 : Hid (∀ w, Calls Try.prog 16 #[.agg #[.int .i64 1, .int .i64 1, .int .i64 1000, .int .i64 0, .int .i64 5, .int .i64 v, .int .i64 0, .int .i64 0], .agg #[.int .i64 2, .int .i64 0, .int .i64 0, .int .i64 1]] w fun e w' => e = .returned (.tuple #[.agg #[.int .i64 1, .int .i64 1, .int .i64 1000, .int .i64 0, .int .i64 5, .int .i64 v, .int .i64 0, .int .i64 0], .bool false]) ∧ Below w.heap.size w w') := fun w => by
    have h := takeI ⟨1, 1, 1000, 0, 5, v, 0, 0⟩ 2 0 0 1 w
    rw [bol_twice hv1] at h
    exact h
  clear hb2 c0 hp0 HC hgl hg
  go_wp2_with fail
  refine Calls.mono (K1.out _) ?_
  rintro e w3 ⟨rfl, hb3⟩
  have HB3 : Hid (Below w1.heap.size w1 w3) := bel_on (Nat.le_refl _) HB2.out hb3
  have HG3 : Hid (w3.cell? ⟨g, 0, none⟩ = some (.int .i64 p0)) := celP HG2.out hb3
  clear hb3 HB2 HG2
  go_wp2_with fail
  refine Calls.mono (K2.out _) ?_
  rintro e w4 ⟨rfl, hb4⟩
  have HG4 : Hid ((w4.alloc (.cells #[.int .i64 0, .int .i64 0, .int .i64 0, .int .i64 0, .int .i64 0, .int .i64 0, .int .i64 0, .int .i64 0] 27)).cell? ⟨g, 0, none⟩ = some (.int .i64 p0)) := celP (celP HG3.out hb4) (alP _ _)
  have lG4 : g < w4.heap.size := Nat.lt_of_lt_of_le (World.block_lt_of_cell? w3 _ HG3.out) hb4.size
  have HN4 : Hid ((w4.alloc (.cells #[.int .i64 0, .int .i64 0, .int .i64 0, .int .i64 0, .int .i64 0, .int .i64 0, .int .i64 0, .int .i64 0] 27)).heap[w4.heap.size]? = some (.cells #[.int .i64 0, .int .i64 0, .int .i64 0, .int .i64 0, .int .i64 0, .int .i64 0, .int .i64 0, .int .i64 0] 27)) := heap_new w4 _
  have HBa : Hid (Below w1.heap.size w1 (w4.alloc (.cells #[.int .i64 0, .int .i64 0, .int .i64 0, .int .i64 0, .int .i64 0, .int .i64 0, .int .i64 0, .int .i64 0] 27))) := bel_on (Nat.le_refl _) (bel_on (Nat.le_refl _) HB3.out hb4) (alP _ _)
  have hl4 : w1.heap.size ≤ w4.heap.size := Nat.le_trans HB3.out.size hb4.size
  clear hb4
  go_wp2_with (refine listStoreP rfl rfl _ _ _ rfl rfl w4.heap.size (1) (1) (1000) (0) (5) (0) (0) (0) rfl rfl HN4.out ?_)
  intro w5 hr ho hs hB
  have HB5 : Hid (Below w1.heap.size w1 w5) := hB _ _ hl4 HBa.out
  have HG5 : Hid (w5.cell? ⟨g, 0, none⟩ = some (.int .i64 p0)) := cel_ho HG4.out (ho _ (by omega))
  obtain ⟨B, hBB⟩ : ∃ B, w4.heap.size = B := ⟨_, rfl⟩
  rw [hBB] at hr hl4 lG4
  have HP5 : Hid (w5.heap[B]? = some (.cells #[.int .i64 1, .int .i64 1, .int .i64 1000, .int .i64 0, .int .i64 5, .int .i64 0, .int .i64 0, .int .i64 0] 27)) := hr
  have HLe : Hid (w1.heap.size ≤ B) := hl4
  rw [hBB]
  clear hr ho hs hB hBB HN4 HBa HB3 HG3 HG4 K2 lG4
  go_wp2_with fail
  refine Calls.mono (K1.out _) ?_
  rintro e w6 ⟨rfl, hb6⟩
  have HB6 : Hid (Below w1.heap.size w1 w6) := bel_on (Nat.le_refl _) HB5.out hb6
  have HP6 : Hid (w6.heap[B]? = some (.cells #[.int .i64 1, .int .i64 1, .int .i64 1000, .int .i64 0, .int .i64 5, .int .i64 0, .int .i64 0, .int .i64 0] 27)) := row_on HP5.out hb6
  have HG6 : Hid (w6.cell? ⟨g, 0, none⟩ = some (.int .i64 p0)) := celP HG5.out hb6
  clear hb6 HB5 HP5 HG5 K1
  go_wp2_with fail
  refine Calls.mono (K3.out _) ?_
  rintro e w7 ⟨rfl, hb7⟩
  have HG7 : Hid ((w7.alloc (.cells #[.int .i64 0, .int .i64 0, .int .i64 0, .int .i64 0, .int .i64 0, .int .i64 0, .int .i64 0, .int .i64 0] 27)).cell? ⟨g, 0, none⟩ = some (.int .i64 p0)) := celP (celP HG6.out hb7) (alP _ _)
  have lG7 : g < w7.heap.size := Nat.lt_of_lt_of_le (World.block_lt_of_cell? w6 _ HG6.out) hb7.size
  have HN7 : Hid ((w7.alloc (.cells #[.int .i64 0, .int .i64 0, .int .i64 0, .int .i64 0, .int .i64 0, .int .i64 0, .int .i64 0, .int .i64 0] 27)).heap[w7.heap.size]? = some (.cells #[.int .i64 0, .int .i64 0, .int .i64 0, .int .i64 0, .int .i64 0, .int .i64 0, .int .i64 0, .int .i64 0] 27)) := heap_new w7 _
  have HBa : Hid (Below w1.heap.size w1 (w7.alloc (.cells #[.int .i64 0, .int .i64 0, .int .i64 0, .int .i64 0, .int .i64 0, .int .i64 0, .int .i64 0, .int .i64 0] 27))) := bel_on (Nat.le_refl _) (bel_on (Nat.le_refl _) HB6.out hb7) (alP _ _)
  have hl7 : w1.heap.size ≤ w7.heap.size := Nat.le_trans HB6.out.size hb7.size
  have HPa : Hid ((w7.alloc (.cells #[.int .i64 0, .int .i64 0, .int .i64 0, .int .i64 0, .int .i64 0, .int .i64 0, .int .i64 0, .int .i64 0] 27)).heap[B]? = some (.cells #[.int .i64 1, .int .i64 1, .int .i64 1000, .int .i64 0, .int .i64 5, .int .i64 0, .int .i64 0, .int .i64 0] 27)) := row_on (row_on HP6.out hb7) (alP _ _)
  have lHP : B < w7.heap.size := Nat.lt_of_lt_of_le (row_lt HP6.out) hb7.size
  clear hb7
  go_wp2_with (refine listStoreP rfl rfl _ _ _ rfl rfl w7.heap.size (0) (0) (1) (0) (0) (0) (0) (0) rfl rfl HN7.out ?_)
  intro w8 hr ho hs hB
  have HB8 : Hid (Below w1.heap.size w1 w8) := hB _ _ hl7 HBa.out
  have HP8 : Hid (w8.heap[B]? = some (.cells #[.int .i64 1, .int .i64 1, .int .i64 1000, .int .i64 0, .int .i64 5, .int .i64 0, .int .i64 0, .int .i64 0] 27)) := (ho _ (by omega)).trans HPa.out
  have HG8 : Hid (w8.cell? ⟨g, 0, none⟩ = some (.int .i64 p0)) := cel_ho HG7.out (ho _ (by omega))
  have q8 := box8_cells HP8.out
  have g8 := HG8.out
  have e8 : 1 + p0.tmod 100 = v := by rw [hvt]; exact hv
  have e9 : IntKind.i64.wrap v = v := wrap_in (by omega) (by omega)
  clear hr ho hs hB HN7 HBa HB6 HP6 HPa HG6 HG7 K3 lG7 lHP hvt hl7
  go_wp2_with fail
  refine Calls.mono (K4.out _) ?_
  rintro e w9 ⟨rfl, hb9⟩
  have HB9 : Hid (Below w1.heap.size w1 w9) := bel_on (Nat.le_refl _) HB8.out hb9
  have HP9 : Hid (w9.heap[B]? = some (.cells #[.int .i64 1, .int .i64 1, .int .i64 1000, .int .i64 0, .int .i64 5, .int .i64 0, .int .i64 0, .int .i64 0] 27)) := row_on HP8.out hb9
  clear hb9 HB8 HP8 HG8 q8 g8 e8 K4
  go_wp2_with (refine listStoreP rfl rfl _ _ _ rfl rfl B (1) (1) (1000) (0) (5) (v) (0) (0) rfl rfl HP9.out ?_)
  intro w10 hr ho hs hB
  have HB10 : Hid (Below w1.heap.size w1 w10) := hB _ _ HLe.out HB9.out
  have HP10 : Hid (w10.heap[B]? = some (.cells #[.int .i64 1, .int .i64 1, .int .i64 1000, .int .i64 0, .int .i64 5, .int .i64 v, .int .i64 0, .int .i64 0] 27)) := hr
  have q10 := box8_cells HP10.out
  clear hr ho hs hB HB9 HP9
  go_wp2_with fail
  refine Calls.mono (K5.out _) ?_
  rintro e w11 ⟨rfl, hb11⟩
  have HN11 : Hid ((w11.alloc (.cells #[.int .i64 0, .int .i64 0, .int .i64 0, .int .i64 0, .int .i64 0, .int .i64 0, .int .i64 0, .int .i64 0] 27)).heap[w11.heap.size]? = some (.cells #[.int .i64 0, .int .i64 0, .int .i64 0, .int .i64 0, .int .i64 0, .int .i64 0, .int .i64 0, .int .i64 0] 27)) := heap_new w11 _
  have HBa : Hid (Below w1.heap.size w1 (w11.alloc (.cells #[.int .i64 0, .int .i64 0, .int .i64 0, .int .i64 0, .int .i64 0, .int .i64 0, .int .i64 0, .int .i64 0] 27))) := bel_on (Nat.le_refl _) (bel_on (Nat.le_refl _) HB10.out hb11) (alP _ _)
  have hl11 : w1.heap.size ≤ w11.heap.size := Nat.le_trans HB10.out.size hb11.size
  have HPa : Hid ((w11.alloc (.cells #[.int .i64 0, .int .i64 0, .int .i64 0, .int .i64 0, .int .i64 0, .int .i64 0, .int .i64 0, .int .i64 0] 27)).heap[B]? = some (.cells #[.int .i64 1, .int .i64 1, .int .i64 1000, .int .i64 0, .int .i64 5, .int .i64 v, .int .i64 0, .int .i64 0] 27)) := row_on (row_on HP10.out hb11) (alP _ _)
  have lHP : B < w11.heap.size := Nat.lt_of_lt_of_le (row_lt HP10.out) hb11.size
  clear hb11
  go_wp2_with (refine listStoreP rfl rfl _ _ _ rfl rfl w11.heap.size (1) (1) (1000) (0) (5) (v) (0) (0) rfl rfl HN11.out ?_)
  intro w12 hr ho hs hB
  have HB12 : Hid (Below w1.heap.size w1 w12) := hB _ _ hl11 HBa.out
  have HP12 : Hid (w12.heap[B]? = some (.cells #[.int .i64 1, .int .i64 1, .int .i64 1000, .int .i64 0, .int .i64 5, .int .i64 v, .int .i64 0, .int .i64 0] 27)) := (ho _ (by omega)).trans HPa.out
  clear hr ho hs hB HN11 HBa HB10 HP10 HPa K5 lHP hl11 q10
  obtain ⟨m, hm⟩ : ∃ m : Nat, (m : Int) = (v + 2) / 3 := ⟨((v + 2) / 3).toNat, by omega⟩
  have hm3 : m ≤ 34 := by omega
  have hmv : 3 * (m : Int) - 2 ≤ v ∧ v ≤ 3 * (m : Int) := by omega
  clear hv e9
  go_wp2
  go_loopg [12] m (fun gk i wr => ∃ (j : Nat) (R b G : Int), j + gk = m ∧ i = .int .i64 j ∧ Hid (R = (j : Int) ∧ b = max (v - 3 * (j : Int)) 0 ∧ G = min (3 * (j : Int)) v) ∧ Hid (wr.heap[B]? = some (.cells #[.int .i64 1, .int .i64 1, .int .i64 1000, .int .i64 R, .int .i64 5, .int .i64 b, .int .i64 G, .int .i64 0] 27)) ∧ Hid (Below w1.heap.size w1 wr))
  case atStart => exact ⟨0, 0, v, 0, by omega, rfl, (by show _ ∧ _ ∧ _; refine ⟨rfl, ?_, ?_⟩ <;> (simp; try omega)), HP12, HB12⟩
  case round =>
    clear HP12 HB12
    obtain ⟨j, R, b, G, hj, rfl, HF, HPr, HBe⟩ := hrel
    by_cases hlt : j < m
    · have hlt' : (j : Int) < 200 := by omega
      obtain ⟨W, hW⟩ : ∃ W, min b 3 = W := ⟨_, rfl⟩
      obtain ⟨b2, hb2⟩ : ∃ b2, max (v - 3 * ((j + 1 : Nat) : Int)) 0 = b2 := ⟨_, rfl⟩
      obtain ⟨G2, hG2⟩ : ∃ G2, min (3 * ((j + 1 : Nat) : Int)) v = G2 := ⟨_, rfl⟩
      obtain ⟨R2, hR2⟩ : ∃ R2 : Int, ((j + 1 : Nat) : Int) = R2 := ⟨_, rfl⟩
      have eP : bolP v j = ⟨1, 1, 1000, R, 5, b, G, 0⟩ := by
        unfold bolP
        rw [← HF.out.2.1, ← HF.out.2.2, ← HF.out.1]
      have eQ : bolP v (j + 1) = ⟨1, 1, 1000, R2, 5, b2, G2, 0⟩ := by
        unfold bolP
        rw [hb2, hG2, hR2]
      have eW : (bolP v j).wants = W := by
        rw [bol_wants hv1 j (by omega), ← HF.out.2.1]
        exact hW
      have KW : Hid (∀ w, Calls Try.prog 22 #[.agg #[.int .i64 1, .int .i64 1, .int .i64 1000, .int .i64 R, .int .i64 5, .int .i64 b, .int .i64 G, .int .i64 0]] w fun e w' => e = .returned (.int .i64 W) ∧ Below w.heap.size w w') := fun w => by
        have h := wantsI (bolP v j) w
        rw [eW, eP] at h
        exact h
      have KG : Hid (∀ w, Calls Try.prog 19 #[.agg #[.int .i64 1, .int .i64 1, .int .i64 1000, .int .i64 R, .int .i64 5, .int .i64 b, .int .i64 G, .int .i64 0], .int .i64 W] w fun e w' => e = .returned (.agg #[.int .i64 1, .int .i64 1, .int .i64 1000, .int .i64 R2, .int .i64 5, .int .i64 b2, .int .i64 G2, .int .i64 0]) ∧ Below w.heap.size w w') := fun w => by
        have h := giveI (bolP v j) (bolP v j).wants w
        rw [bol_step hv1 j (by omega), eW, eP, eQ] at h
        exact h
      have hb0 : 0 < b := by have := HF.out.2.1; omega
      have HF2 : Hid (R2 = ((j + 1 : Nat) : Int) ∧ b2 = max (v - 3 * ((j + 1 : Nat) : Int)) 0 ∧ G2 = min (3 * ((j + 1 : Nat) : Int)) v) := ⟨hR2.symm, hb2.symm, hG2.symm⟩
      clear hW hb2 hG2 hR2 eP eQ eW
      have pr := box8_cells HPr.out
      have qi : IntKind.i64.wrap ((j : Int) + 1) = (j : Int) + 1 := wrap_in (by omega) (by omega)
      go_upto_region 11 with fail
      refine wp_region_held_drew (S := fun w' => True) (by kernel_rfl) trivial (fun hHeld => ?_)
      refine wpAnyH_named (fun a0 ha0 => ?_)
      have HA0 : Hid (a0 = _) := ha0
      clear ha0
      refine any_states (σ := Bool × Fin 3) (fun s => #[s.1, decide (0 < s.2), decide (1 < s.2), false, false]) (fun s => (if s.1 = true then [] else [0]) ++ (if s.2 = 0 then [1] else []) ++ (if s.2 = 1 then [2] else [])) (fun s => 2 + (if s.1 then 0 else 1) + (2 - s.2.val)) (fun s => true) (fun s => decide (s.2 = 2) && s.1) (fun q a w_ => ∃ t0 t1 t2 : Value, a = ((a0.put (some 54) t0).put (some 55) t1).put (some 56) t2 ∧ PG (B) (w1.heap.size) w1 (1) (1) (1000) (R) (5) (b) (G) (0) (W) q.1 q.2 t0 t1 t2 w_) ?_ ?_ ?_ 5 (false, 0) _ _ _ (by decide) (by decide) (by decide) trivial ⟨a0.tmps.getD 54 undef, a0.tmps.getD 55 undef, a0.tmps.getD 56 undef, (by simp only [put_self]), ⟨fun h => absurd h (by simp), fun h => absurd h (by simp), fun h => absurd h (by simp), HPr.out, HBe.out.drew, HLe.out⟩⟩
      · rintro ⟨x, c⟩
        dsimp only
        revert x c
        decide +kernel
      · rintro ⟨x, c⟩ i hok hfin hi
        dsimp only at hok hfin hi
        simp only [List.mem_append, mem_ifn, mem_ifc] at hi
        rcases hi with (hi | hi) | hi
        · obtain ⟨hx, rfl⟩ := hi
          subst hx
          refine ⟨(true, c), rfl, rfl, ?_, ?_⟩
          · clear hfin hok; revert c; decide +kernel
          rintro a w_ hSw ⟨t0, t1, t2, rfl, hn⟩
          dsimp only at hn ⊢
          refine wpOp_step (i := 0) rfl (fun K hK => ?_)
          have HK : Shut _ := hK
          clear hK
          rw [HA0.out]
          simp only [Act.put, List.setIfInBounds_toArray, List.set_cons_zero, List.set_cons_succ]
          have kk := box8_cells hn.row
          go_simp
          exact HK.out _ _ ⟨trivial, _, t1, t2, (by rw [HA0.out]; simp only [Act.put, List.setIfInBounds_toArray, List.set_cons_zero, List.set_cons_succ]), ⟨fun _ => rfl, hn.c1, hn.c2, hn.row, hn.bel, hn.lt⟩⟩
        · obtain ⟨rfl, rfl⟩ := hi
          refine ⟨(x, 1), rfl, rfl, ?_, ?_⟩
          · clear hfin hok; revert x; decide +kernel
          rintro a w_ hSw ⟨t0, t1, t2, rfl, hn⟩
          dsimp only at hn ⊢
          refine wpOp_step (i := 1) rfl (fun K hK => ?_)
          have HK : Shut _ := hK
          clear hK
          rw [HA0.out]
          simp only [Act.put, List.setIfInBounds_toArray, List.set_cons_zero, List.set_cons_succ]
          have kk := box8_cells hn.row
          go_simp
          exact HK.out _ _ ⟨trivial, t0, _, t2, (by rw [HA0.out]; simp only [Act.put, List.setIfInBounds_toArray, List.set_cons_zero, List.set_cons_succ]), ⟨hn.x, fun _ => rfl, fun h => absurd h (by decide), hn.row, hn.bel, hn.lt⟩⟩
        · obtain ⟨rfl, rfl⟩ := hi
          refine ⟨(x, 2), rfl, rfl, ?_, ?_⟩
          · clear hfin hok; revert x; decide +kernel
          rintro a w_ hSw ⟨t0, t1, t2, rfl, hn⟩
          dsimp only at hn ⊢
          refine wpOp_step (i := 2) rfl (fun K hK => ?_)
          have HK : Shut _ := hK
          clear hK
          rw [HA0.out]
          simp only [Act.put, List.setIfInBounds_toArray, List.set_cons_zero, List.set_cons_succ]
          obtain rfl := hn.c1 (by decide)
          go_simp
          go_at_call 22
          refine Calls.mono (KW.out _) ?_
          rintro e w2 ⟨rfl, hb2⟩
          have hn2 := hn.on hb2
          go_wp2_with fail
          exact HK.out _ _ ⟨trivial, t0, _, _, (by rw [HA0.out]; simp only [Act.put, List.setIfInBounds_toArray, List.set_cons_zero, List.set_cons_succ]), ⟨hn2.x, fun _ => rfl, fun _ => rfl, hn2.row, hn2.bel, hn2.lt⟩⟩
      · rintro ⟨x, c⟩ a w_ f2 hok hfin hf hSw ⟨t0, t1, t2, rfl, hn⟩
        dsimp only at hok hfin hf hn ⊢
        obtain ⟨rfl, rfl⟩ : c = 2 ∧ x = true := by simpa using hfin
        obtain ⟨f3, rfl⟩ : ∃ f3, f2 = f3 + 2 := ⟨f2 - 2, by have h3 : 2 ≤ f2 := (by first | exact hf | simpa using hf); omega⟩
        obtain rfl := hn.x rfl
        obtain rfl := hn.c1 (by decide)
        obtain rfl := hn.c2 rfl
        rw [HA0.out]
        simp only [Act.put, List.setIfInBounds_toArray, List.set_cons_zero, List.set_cons_succ]
        refine wpAnyH_ready (rs := [3]) (by kernel_rfl) (by simp) ?_
        refine AllReadyH.cons rfl (fun K hK => ?_) AllReadyH.nil
        go_simp
        go_at_call 19
        refine Calls.mono (KG.out _) ?_
        rintro e w8 ⟨rfl, hb8⟩
        have hn8 := hn.on hb8
        go_wp2_with fail
        refine hK.out _ _ trivial (fun hHeld2 => ?_)
        clear hK K
        simp only [Act.put, List.setIfInBounds_toArray, List.set_cons_zero, List.set_cons_succ]
        refine wpAnyH_ready (rs := [4]) (by kernel_rfl) (by simp) ?_
        refine AllReadyH.cons rfl (fun K hK => ?_) AllReadyH.nil
        have kk := box8_cells hn8.row
        go_simp
        have HPn : Hid (((((((((w8.setCell ⟨B, 0, none⟩ (.int .i64 1)).setCell ⟨B, 1, none⟩ (.int .i64 1)).setCell ⟨B, 2, none⟩ (.int .i64 1000)).setCell ⟨B, 3, none⟩ (.int .i64 R2)).setCell ⟨B, 4, none⟩ (.int .i64 5)).setCell ⟨B, 5, none⟩ (.int .i64 b2)).setCell ⟨B, 6, none⟩ (.int .i64 G2)).setCell ⟨B, 7, none⟩ (.int .i64 0)).heap[B]? = some (.cells #[.int .i64 1, .int .i64 1, .int .i64 1000, .int .i64 R2, .int .i64 5, .int .i64 b2, .int .i64 G2, .int .i64 0] 27)) := set8_row (1) (1) (1000) (R2) (5) (b2) (G2) (0) hn8.row
        have HBn : Hid (Below (w1.heap.size) w1 ((((((((w8.setCell ⟨B, 0, none⟩ (.int .i64 1)).setCell ⟨B, 1, none⟩ (.int .i64 1)).setCell ⟨B, 2, none⟩ (.int .i64 1000)).setCell ⟨B, 3, none⟩ (.int .i64 R2)).setCell ⟨B, 4, none⟩ (.int .i64 5)).setCell ⟨B, 5, none⟩ (.int .i64 b2)).setCell ⟨B, 6, none⟩ (.int .i64 G2)).setCell ⟨B, 7, none⟩ (.int .i64 0))) := set8_bel (1) (1) (1000) (R2) (5) (b2) (G2) (0) hn8.bel hn8.lt
        refine hK.out _ _ trivial (fun hHeld3 => ?_)
        clear hK K hHeld2 hHeld3 hn hn8 hb8 kk
        simp only [Act.put, List.setIfInBounds_toArray, List.set_cons_zero, List.set_cons_succ]
        refine wpAnyH_done (by kernel_rfl) ?_ _
        generalize ((((((((w8.setCell ⟨B, 0, none⟩ (.int .i64 1)).setCell ⟨B, 1, none⟩ (.int .i64 1)).setCell ⟨B, 2, none⟩ (.int .i64 1000)).setCell ⟨B, 3, none⟩ (.int .i64 R2)).setCell ⟨B, 4, none⟩ (.int .i64 5)).setCell ⟨B, 5, none⟩ (.int .i64 b2)).setCell ⟨B, 6, none⟩ (.int .i64 G2)).setCell ⟨B, 7, none⟩ (.int .i64 0)) = w9 at *
        clear HPr HBe KW KG
        clear pr hb0
        go_wp2
        go_roundg (gk - 1)
        case measure => omega
        case rel => exact ⟨j + 1, R2, b2, G2, by omega, by go_num, HF2, HPn, HBn⟩
    · obtain rfl : j = m := by omega
      obtain rfl : b = 0 := by have := HF.out.2.1; omega
      have hGv : G = v := by have := HF.out.2.2; omega
      rw [hGv] at HPr
      have pr := box8_cells HPr.out
      obtain ⟨X, hX⟩ : ∃ X, v + 2 = X := ⟨_, rfl⟩
      obtain ⟨Y, hY⟩ : ∃ Y, v + 3 = Y := ⟨_, rfl⟩
      have e1 : wrap64 (X.tdiv 3) = (j : Int) := by rw [Int.tdiv_eq_ediv_of_nonneg (by omega), ← hX, ← hm]; exact wrap64_in (by omega) (by omega)
      have e2 : IntKind.i64.wrap (v + 3) = Y := by rw [hY]; exact wrap_in (by omega) (by omega)
      have e3 : IntKind.i64.wrap (Y - 1) = X := by rw [show Y - 1 = X by omega]; exact wrap_in (by omega) (by omega)
      have HBf : Hid (Below w1.heap.size w1 wr) := HBe.out
      clear hX hY hGv hj hlt hv1 HBe
      clear hm hmv hm3 HF
      go_wp2
      go_ret
      exact ⟨by simp, HBf.out⟩
end Go.Proofs.Ytpjnmkijndmemaa
