/-
  Keys rune by rune: what is more than a byte changes nothing.
-/
import Derived.Test.YtfhhnelffldggaaGreatDoorRqAG
import Derived.Laws.RangeAny
import Derived.Test.YtfhhnelffldggaaGreatDoorRqAL
set_option maxRecDepth 100000
set_option maxHeartbeats 16000000
namespace Go.Proofs.YtfhhnelffldggaaGreatDoor
open Go.RowKit Go.PlainAid
set_option linter.unusedVariables false
set_option linter.unusedSimpArgs false
theorem press_high (m : Mn) {key : Int} (h : 128 ≤ key) : pressM m key = noP m := by
  unfold pressM
  by_cases h1 : okM m = false
  · rw [if_pos h1]
  rw [if_neg h1]
  by_cases h2 : m.a = 1
  · rw [if_pos h2]
    unfold topM
    rw [if_neg (by omega), if_neg (by omega), if_neg (by omega), if_neg (by omega), if_neg (by omega), if_neg (by omega)]
  rw [if_neg h2, if_neg (by omega), if_neg (by omega), if_pos (by omega)]
theorem all_high : ∀ (l : List UInt8) (m : Mn), (∀ x ∈ l, 128 ≤ x.toNat) → allM m l = (m, [])
  | [], m, h => rfl
  | x :: l, m, h => by
    have hp : pressM m (x.toNat : Int) = noP m := press_high m (by have := h x (List.mem_cons_self ..); omega)
    have ih := all_high l m (fun y hy => h y (List.mem_cons_of_mem _ hy))
    rw [allM_cons, hp]
    dsimp only [noP]
    rw [ih]
    rfl
theorem dec_wide (K : ByteArray) (pos : Nat) (h : pos < K.size) (ha : 128 ≤ (K[pos]'h).toNat) : pos + (Utf8.decode K pos).2 ≤ K.size ∧ ∀ i, i < (Utf8.decode K pos).2 → 128 ≤ (K.get! (pos + i)).toNat := by
  have hn : ¬ (K[pos]'h).toNat < 128 := by omega
  have h0 : 128 ≤ (K.get! (pos + 0)).toNat := by rw [get_at K pos h]; exact ha
  have one : ∀ i, i < 1 → 128 ≤ (K.get! (pos + i)).toNat := fun i hi => by
    obtain rfl : i = 0 := by omega
    exact h0
  simp only [Utf8.decode, get_at K pos h, hn, if_false]
  by_cases c2 : ((K[pos]'h).toNat / 32 == 6 && (decide (pos + 1 < K.size) && (K.get! (pos + 1)).toNat / 64 == 2)) = true
  · rw [if_pos c2]
    simp only [Bool.and_eq_true, decide_eq_true_eq, beq_iff_eq] at c2
    have h1 : 128 ≤ (K.get! (pos + 1)).toNat := by omega
    split
    · refine ⟨by show pos + 2 ≤ K.size; omega, fun i hi => ?_⟩
      have hi2 : i = 0 ∨ i = 1 := by have : i < 2 := hi; omega
      rcases hi2 with rfl | rfl
      · exact h0
      · exact h1
    · exact ⟨by show pos + 1 ≤ K.size; omega, one⟩
  rw [if_neg c2]
  by_cases c3 : ((K[pos]'h).toNat / 16 == 14 && (decide (pos + 1 < K.size) && (K.get! (pos + 1)).toNat / 64 == 2) && (decide (pos + 2 < K.size) && (K.get! (pos + 2)).toNat / 64 == 2)) = true
  · rw [if_pos c3]
    simp only [Bool.and_eq_true, decide_eq_true_eq, beq_iff_eq] at c3
    have h1 : 128 ≤ (K.get! (pos + 1)).toNat := by omega
    have h2 : 128 ≤ (K.get! (pos + 2)).toNat := by omega
    split
    · refine ⟨by show pos + 3 ≤ K.size; omega, fun i hi => ?_⟩
      have hi2 : i = 0 ∨ i = 1 ∨ i = 2 := by have : i < 3 := hi; omega
      rcases hi2 with rfl | rfl | rfl
      · exact h0
      · exact h1
      · exact h2
    · exact ⟨by show pos + 1 ≤ K.size; omega, one⟩
  rw [if_neg c3]
  by_cases c4 : ((K[pos]'h).toNat / 8 == 30 && (decide (pos + 1 < K.size) && (K.get! (pos + 1)).toNat / 64 == 2) && (decide (pos + 2 < K.size) && (K.get! (pos + 2)).toNat / 64 == 2) && (decide (pos + 3 < K.size) && (K.get! (pos + 3)).toNat / 64 == 2)) = true
  · rw [if_pos c4]
    simp only [Bool.and_eq_true, decide_eq_true_eq, beq_iff_eq] at c4
    have h1 : 128 ≤ (K.get! (pos + 1)).toNat := by omega
    have h2 : 128 ≤ (K.get! (pos + 2)).toNat := by omega
    have h3 : 128 ≤ (K.get! (pos + 3)).toNat := by omega
    split
    · refine ⟨by show pos + 4 ≤ K.size; omega, fun i hi => ?_⟩
      have hi2 : i = 0 ∨ i = 1 ∨ i = 2 ∨ i = 3 := by have : i < 4 := hi; omega
      rcases hi2 with rfl | rfl | rfl | rfl
      · exact h0
      · exact h1
      · exact h2
      · exact h3
    · exact ⟨by show pos + 1 ≤ K.size; omega, one⟩
  rw [if_neg c4]
  exact ⟨by show pos + 1 ≤ K.size; omega, one⟩
theorem all_rune {ks : List UInt8} {K : ByteArray} (hK : (⟨ks.toArray⟩ : ByteArray) = K) {pos : Nat} (h : pos < K.size) (m M : Mn) (l : List Od4) (hM : allM m (ks.take pos) = (M, l)) :
    1 ≤ (Utf8.decode K pos).2 ∧ pos + (Utf8.decode K pos).2 ≤ K.size ∧ allM m (ks.take (pos + (Utf8.decode K pos).2)) = ((pressM M ((Utf8.decode K pos).1 : Int)).m, if (pressM M ((Utf8.decode K pos).1 : Int)).t = true then l ++ [((pressM M ((Utf8.decode K pos).1 : Int)).k, (pressM M ((Utf8.decode K pos).1 : Int)).n, (pressM M ((Utf8.decode K pos).1 : Int)).d, (pressM M ((Utf8.decode K pos).1 : Int)).v)] else l) := by
  have hsz := txt_size hK
  have hl : pos < ks.length := by omega
  have hb : (K[pos]'h) = ks[pos] := by subst hK; rfl
  by_cases ha : (K[pos]'h).toNat < 128
  · have e := decode_ascii K pos h ha
    rw [e]
    refine ⟨Nat.le_refl _, by show pos + 1 ≤ K.size; omega, ?_⟩
    show allM m (ks.take (pos + 1)) = _
    rw [allM_take hl, hM, hb]
  · have ha' : 128 ≤ (K[pos]'h).toNat := by omega
    obtain ⟨d1, d2⟩ := decode_high K pos h ha'
    obtain ⟨d3, d4⟩ := dec_wide K pos h ha'
    refine ⟨d2, d3, ?_⟩
    have hp : pressM M ((Utf8.decode K pos).1 : Int) = noP M := press_high M (by omega)
    rw [hp]
    have e : ks.take (pos + (Utf8.decode K pos).2) = ks.take pos ++ (ks.drop pos).take (Utf8.decode K pos).2 := by rw [List.take_add]
    rw [e, allM_app, hM]
    dsimp only
    rw [all_high _ M (fun x hx => by
      obtain ⟨i, hi, rfl⟩ := List.getElem_of_mem hx
      have hi1 : i < (Utf8.decode K pos).2 := by simp at hi; omega
      have hi2 : pos + i < ks.length := by omega
      have h5 := d4 i hi1
      have h6 : (ks.drop pos |>.take (Utf8.decode K pos).2)[i] = ks[pos + i] := by rw [List.getElem_take, List.getElem_drop]
      rw [h6]
      have h7 : K.get! (pos + i) = ks[pos + i] := by
        subst hK
        have hs : pos + i < (⟨ks.toArray⟩ : ByteArray).size := by rw [hsz]; exact hi2
        simp [ByteArray.get!, getElem!_pos, hi2]
      rw [← h7]
      exact h5)]
    dsimp only [noP]
    rw [List.append_nil]
    rfl
theorem dec_max (K : ByteArray) (pos : Nat) : (Utf8.decode K pos).1 ≤ 2147483647 := decode_le K pos
theorem giveS_2 (n d r l b g k a m W c q B G g2 r' y : Int) (KP : Hid (∀ w, Calls Tryz.prog 94 #[PV 2 n d r l b g k] w fun e w' => e = .returned (.bool true) ∧ Below w.heap.size w w')) (KW : Hid (∀ w, Calls Tryz.prog 55 #[PV 2 n d r l b g k] w fun e w' => e = .returned (.int .i64 W) ∧ Below w.heap.size w w')) (KR : Hid (∀ w, Calls Tryz.prog 110 #[.agg #[.int .i64 n, .int .i64 d, .int .i64 r]] w fun e w' => e = .returned (.tuple #[.agg #[.int .i64 n, .int .i64 d, .int .i64 r'], .int .i64 y]) ∧ Below w.heap.size w w')) (hm : Hid (min a W = m)) (hq : Hid (min b 3 = q)) (hc : Hid (min m q = c)) (hg2 : Hid (min G 1000000000000 = g2)) (hneg : 0 ≤ m) (eB : IntKind.i64.wrap (b - c) = B) (eG : IntKind.i64.wrap (g + m) = G) (HT : Hid (Pm.give ⟨2, n, d, r, l, b, g, k⟩ a = ⟨2, n, d, r', l, B, g2, k⟩)) (w : World) : Calls Tryz.prog 56 #[PV 2 n d r l b g k, .int .i64 a] w fun e w' => e = .returned (Pm.give ⟨2, n, d, r, l, b, g, k⟩ a).V ∧ Below w.heap.size w w' := by
  have HB0 : Hid (Below w.heap.size w ((w.alloc (PB 2 n d r l b g k)).alloc (PB 0 0 0 0 0 0 0 0))) := bel_on (Nat.le_refl _) (alP _ _) (alP _ _)
  have HP0 : Hid (((w.alloc (PB 2 n d r l b g k)).alloc (PB 0 0 0 0 0 0 0 0)).heap[w.heap.size]? = some (PB 2 n d r l b g k)) := row_on (heap_new w _) (alP _ _)
  have HZ0 : Hid (((w.alloc (PB 2 n d r l b g k)).alloc (PB 0 0 0 0 0 0 0 0)).heap[w.heap.size + 1]? = some (PB 0 0 0 0 0 0 0 0)) := al_at (w.alloc (PB 2 n d r l b g k)) _ (by simp)
  have p0 := box8_cells HP0.out
  go_enter Tryz.func56, Tryz.ntmps56
  go_wp2_with fail
  refine Calls.mono (KP.out _) ?_
  rintro e w1 ⟨rfl, hb1⟩
  have HB1 := bq HB0 hb1
  have HP1 : Hid (w1.heap[w.heap.size]? = some (PB 2 n d r l b g k)) := row_on HP0.out hb1
  have HZ1 : Hid (w1.heap[w.heap.size + 1]? = some (PB 0 0 0 0 0 0 0 0)) := row_on HZ0.out hb1
  have p1 := box8_cells HP1.out
  clear hb1 HB0 HP0 HZ0 p0
  go_wp2_with fail
  refine Calls.mono (KW.out _) ?_
  rintro e w2 ⟨rfl, hb2⟩
  have HB2 := bq HB1 hb2
  have HP2 : Hid (w2.heap[w.heap.size]? = some (PB 2 n d r l b g k)) := row_on HP1.out hb2
  have HZ2 : Hid (w2.heap[w.heap.size + 1]? = some (PB 0 0 0 0 0 0 0 0)) := row_on HZ1.out hb2
  have p2 := box8_cells HP2.out
  have hl2 := row_lt HZ2.out
  clear hb2 HB1 HP1 HZ1 p1 KP KW
  go_wp2_with fail
  refine (lessS a W m hm.out _).mono ?_
  rintro e wz ⟨rfl, hwz⟩
  subst hwz
  have HN2 : Hid ((wz.alloc (PB 0 0 0 0 0 0 0 0)).heap[wz.heap.size]? = some (PB 0 0 0 0 0 0 0 0)) := heap_new wz _
  have HPa : Hid ((wz.alloc (PB 0 0 0 0 0 0 0 0)).heap[w.heap.size]? = some (PB 2 n d r l b g k)) := row_on HP2.out (alP _ _)
  have HZa : Hid ((wz.alloc (PB 0 0 0 0 0 0 0 0)).heap[w.heap.size + 1]? = some (PB 0 0 0 0 0 0 0 0)) := row_on HZ2.out (alP _ _)
  have HBa : Hid (Below w.heap.size w (wz.alloc (PB 0 0 0 0 0 0 0 0))) := bel_on (Nat.le_refl _) HB2.out (alP _ _)
  go_upto_region 6 with fail
  go_wp2_with (refine listStoreP rfl rfl _ _ _ rfl rfl wz.heap.size (2) (n) (d) (r) (l) (b) (g) (k) rfl rfl HN2.out ?_)
  intro w3 hr3 ho3 hs3 hB3
  obtain ⟨Q, hQ⟩ : ∃ Q, wz.heap.size = Q := ⟨_, rfl⟩
  rw [hQ] at hr3 ho3 hB3 hl2
  have hl : w.heap.size ≤ Q := by omega
  have HB3 : Hid (Below w.heap.size w w3) := hB3 _ _ hl HBa.out
  have HN3 : Hid (w3.heap[Q]? = some (PB 2 n d r l b g k)) := hr3
  have HP3 : Hid (w3.heap[w.heap.size]? = some (PB 2 n d r l b g k)) := (ho3 _ (by omega)).trans HPa.out
  have HZ3 : Hid (w3.heap[w.heap.size + 1]? = some (PB 0 0 0 0 0 0 0 0)) := (ho3 _ (by omega)).trans HZa.out
  have p3 := box8_cells HP3.out
  have n3 := box8_cells HN3.out
  rw [hQ]
  clear hr3 ho3 hs3 hB3 HN2 HPa HZa HBa HP2 HZ2 HB2 p2 hQ
  go_wp2_with fail
  refine Calls.mono (KR.out _) ?_
  rintro e w4 ⟨rfl, hb4⟩
  have HB4 := bq HB3 hb4
  have HN4 : Hid (w4.heap[Q]? = some (PB 2 n d r l b g k)) := row_on HN3.out hb4
  have HP4 : Hid (w4.heap[w.heap.size]? = some (PB 2 n d r l b g k)) := row_on HP3.out hb4
  have HZ4 : Hid (w4.heap[w.heap.size + 1]? = some (PB 0 0 0 0 0 0 0 0)) := row_on HZ3.out hb4
  have p4 := box8_cells HP4.out
  have n4 := box8_cells HN4.out
  clear hb4 HB3 HN3 HP3 HZ3 p3 n3 KR
  go_wp2_with (refine listStoreR rfl rfl _ _ _ rfl rfl Q (n) (d) (r') rfl rfl HN4.out ?_)
  intro w5 hr ho hs hB
  have HB5 : Hid (Below w.heap.size w w5) := hB _ _ hl HB4.out
  have HN5 : Hid (w5.heap[Q]? = some (PB 2 n d r' l b g k)) := hr
  have HP5 : Hid (w5.heap[w.heap.size]? = some (PB 2 n d r l b g k)) := (ho _ (by omega)).trans HP4.out
  have HZ5 : Hid (w5.heap[w.heap.size + 1]? = some (PB 0 0 0 0 0 0 0 0)) := (ho _ (by omega)).trans HZ4.out
  have p5 := box8_cells HP5.out
  have n5 := box8_cells HN5.out
  clear hr ho hs hB HB4 HN4 HP4 HZ4 p4 n4
  go_wp2_with fail
  refine (lessS b 3 q hq.out _).mono ?_
  rintro e wz ⟨rfl, hwz⟩
  subst hwz
  go_wp2_with fail
  refine (lessS m q c hc.out _).mono ?_
  rintro e wz ⟨rfl, hwz⟩
  subst hwz
  go_upto_region 9 with fail
  go_wp2_with (refine listStoreC rfl rfl _ _ _ rfl rfl Q 5 (B) rfl rfl HN5.out (by simp) ?_)
  intro w6 hr ho hs hB
  have HB6 : Hid (Below w.heap.size w w6) := hB _ _ hl HB5.out
  have HN6 : Hid (w6.heap[Q]? = some (PB 2 n d r' l B g k)) := hr
  have HP6 : Hid (w6.heap[w.heap.size]? = some (PB 2 n d r l b g k)) := (ho _ (by omega)).trans HP5.out
  have HZ6 : Hid (w6.heap[w.heap.size + 1]? = some (PB 0 0 0 0 0 0 0 0)) := (ho _ (by omega)).trans HZ5.out
  have p6 := box8_cells HP6.out
  have n6 := box8_cells HN6.out
  clear hr ho hs hB HB5 HN5 HP5 HZ5 p5 n5
  go_wp2_with fail
  refine (lessS G 1000000000000 g2 hg2.out _).mono ?_
  rintro e wz ⟨rfl, hwz⟩
  subst hwz
  go_wp2_with (refine listStoreC rfl rfl _ _ _ rfl rfl Q 6 (g2) rfl rfl HN6.out (by simp) ?_)
  intro w8 hr ho hs hB
  have HB8 : Hid (Below w.heap.size w w8) := hB _ _ hl HB6.out
  have HN8 : Hid (w8.heap[Q]? = some (PB 2 n d r' l B g2 k)) := hr
  have HP8 : Hid (w8.heap[w.heap.size]? = some (PB 2 n d r l b g k)) := (ho _ (by omega)).trans HP6.out
  have HZ8 : Hid (w8.heap[w.heap.size + 1]? = some (PB 0 0 0 0 0 0 0 0)) := (ho _ (by omega)).trans HZ6.out
  have p8 := box8_cells HP8.out
  have n8 := box8_cells HN8.out
  clear hr ho hs hB HB6 HN6 HP6 HZ6 p6 n6
  go_upto_region 16 with fail
  go_wp2_with (refine listStoreP rfl rfl _ _ _ rfl rfl (w.heap.size + 1) (2) (n) (d) (r') (l) (B) (g2) (k) rfl rfl HZ8.out ?_)
  intro w99 hr9 ho9 hs9 hB9
  have HF : Hid (Below w.heap.size w w99) := hB9 _ _ (Nat.le_succ _) HB8.out
  obtain ⟨⟨q0, q1, q2, q3, q4, q5, q6, q7⟩, _⟩ := box8_cells hr9
  clear ho9 hs9 hB9 hr9
  go_wp2
  refine bodyPost_ret (v := PV 2 n d r' l B g2 k) (by simp only [results, Tryz.results56]; simp [go_sem, q0, q1, q2, q3, q4, q5, q6, q7]) rfl ⟨by rw [HT.out]; rfl, HF.out⟩
theorem giveS_2n (n d r l b g k a m W q r' y : Int) (KP : Hid (∀ w, Calls Tryz.prog 94 #[PV 2 n d r l b g k] w fun e w' => e = .returned (.bool true) ∧ Below w.heap.size w w')) (KW : Hid (∀ w, Calls Tryz.prog 55 #[PV 2 n d r l b g k] w fun e w' => e = .returned (.int .i64 W) ∧ Below w.heap.size w w')) (KR : Hid (∀ w, Calls Tryz.prog 110 #[.agg #[.int .i64 n, .int .i64 d, .int .i64 r]] w fun e w' => e = .returned (.tuple #[.agg #[.int .i64 n, .int .i64 d, .int .i64 r'], .int .i64 y]) ∧ Below w.heap.size w w')) (hm : Hid (min a W = m)) (hq : Hid (min b 3 = q)) (hc : Hid (min 0 q = 0)) (hg2 : Hid (min g 1000000000000 = g)) (hneg : m < 0) (eb : IntKind.i64.wrap b = b) (eb' : wrap64 b = b) (eg : IntKind.i64.wrap g = g) (eg' : wrap64 g = g) (el : IntKind.i64.wrap l = l) (el' : wrap64 l = l) (HT : Hid (Pm.give ⟨2, n, d, r, l, b, g, k⟩ a = ⟨2, n, d, r', l, b, g, k⟩)) (w : World) : Calls Tryz.prog 56 #[PV 2 n d r l b g k, .int .i64 a] w fun e w' => e = .returned (Pm.give ⟨2, n, d, r, l, b, g, k⟩ a).V ∧ Below w.heap.size w w' := by
  have HB0 : Hid (Below w.heap.size w ((w.alloc (PB 2 n d r l b g k)).alloc (PB 0 0 0 0 0 0 0 0))) := bel_on (Nat.le_refl _) (alP _ _) (alP _ _)
  have HP0 : Hid (((w.alloc (PB 2 n d r l b g k)).alloc (PB 0 0 0 0 0 0 0 0)).heap[w.heap.size]? = some (PB 2 n d r l b g k)) := row_on (heap_new w _) (alP _ _)
  have HZ0 : Hid (((w.alloc (PB 2 n d r l b g k)).alloc (PB 0 0 0 0 0 0 0 0)).heap[w.heap.size + 1]? = some (PB 0 0 0 0 0 0 0 0)) := al_at (w.alloc (PB 2 n d r l b g k)) _ (by simp)
  have p0 := box8_cells HP0.out
  go_enter Tryz.func56, Tryz.ntmps56
  go_wp2_with fail
  refine Calls.mono (KP.out _) ?_
  rintro e w1 ⟨rfl, hb1⟩
  have HB1 := bq HB0 hb1
  have HP1 : Hid (w1.heap[w.heap.size]? = some (PB 2 n d r l b g k)) := row_on HP0.out hb1
  have HZ1 : Hid (w1.heap[w.heap.size + 1]? = some (PB 0 0 0 0 0 0 0 0)) := row_on HZ0.out hb1
  have p1 := box8_cells HP1.out
  clear hb1 HB0 HP0 HZ0 p0
  go_wp2_with fail
  refine Calls.mono (KW.out _) ?_
  rintro e w2 ⟨rfl, hb2⟩
  have HB2 := bq HB1 hb2
  have HP2 : Hid (w2.heap[w.heap.size]? = some (PB 2 n d r l b g k)) := row_on HP1.out hb2
  have HZ2 : Hid (w2.heap[w.heap.size + 1]? = some (PB 0 0 0 0 0 0 0 0)) := row_on HZ1.out hb2
  have p2 := box8_cells HP2.out
  have hl2 := row_lt HZ2.out
  clear hb2 HB1 HP1 HZ1 p1 KP KW
  go_wp2_with fail
  refine (lessS a W m hm.out _).mono ?_
  rintro e wz ⟨rfl, hwz⟩
  subst hwz
  have HN2 : Hid ((wz.alloc (PB 0 0 0 0 0 0 0 0)).heap[wz.heap.size]? = some (PB 0 0 0 0 0 0 0 0)) := heap_new wz _
  have HPa : Hid ((wz.alloc (PB 0 0 0 0 0 0 0 0)).heap[w.heap.size]? = some (PB 2 n d r l b g k)) := row_on HP2.out (alP _ _)
  have HZa : Hid ((wz.alloc (PB 0 0 0 0 0 0 0 0)).heap[w.heap.size + 1]? = some (PB 0 0 0 0 0 0 0 0)) := row_on HZ2.out (alP _ _)
  have HBa : Hid (Below w.heap.size w (wz.alloc (PB 0 0 0 0 0 0 0 0))) := bel_on (Nat.le_refl _) HB2.out (alP _ _)
  go_upto_region 6 with fail
  go_wp2_with (refine listStoreP rfl rfl _ _ _ rfl rfl wz.heap.size (2) (n) (d) (r) (l) (b) (g) (k) rfl rfl HN2.out ?_)
  intro w3 hr3 ho3 hs3 hB3
  obtain ⟨Q, hQ⟩ : ∃ Q, wz.heap.size = Q := ⟨_, rfl⟩
  rw [hQ] at hr3 ho3 hB3 hl2
  have hl : w.heap.size ≤ Q := by omega
  have HB3 : Hid (Below w.heap.size w w3) := hB3 _ _ hl HBa.out
  have HN3 : Hid (w3.heap[Q]? = some (PB 2 n d r l b g k)) := hr3
  have HP3 : Hid (w3.heap[w.heap.size]? = some (PB 2 n d r l b g k)) := (ho3 _ (by omega)).trans HPa.out
  have HZ3 : Hid (w3.heap[w.heap.size + 1]? = some (PB 0 0 0 0 0 0 0 0)) := (ho3 _ (by omega)).trans HZa.out
  have p3 := box8_cells HP3.out
  have n3 := box8_cells HN3.out
  rw [hQ]
  clear hr3 ho3 hs3 hB3 HN2 HPa HZa HBa HP2 HZ2 HB2 p2 hQ
  go_wp2_with fail
  refine Calls.mono (KR.out _) ?_
  rintro e w4 ⟨rfl, hb4⟩
  have HB4 := bq HB3 hb4
  have HN4 : Hid (w4.heap[Q]? = some (PB 2 n d r l b g k)) := row_on HN3.out hb4
  have HP4 : Hid (w4.heap[w.heap.size]? = some (PB 2 n d r l b g k)) := row_on HP3.out hb4
  have HZ4 : Hid (w4.heap[w.heap.size + 1]? = some (PB 0 0 0 0 0 0 0 0)) := row_on HZ3.out hb4
  have p4 := box8_cells HP4.out
  have n4 := box8_cells HN4.out
  clear hb4 HB3 HN3 HP3 HZ3 p3 n3 KR
  go_wp2_with (refine listStoreR rfl rfl _ _ _ rfl rfl Q (n) (d) (r') rfl rfl HN4.out ?_)
  intro w5 hr ho hs hB
  have HB5 : Hid (Below w.heap.size w w5) := hB _ _ hl HB4.out
  have HN5 : Hid (w5.heap[Q]? = some (PB 2 n d r' l b g k)) := hr
  have HP5 : Hid (w5.heap[w.heap.size]? = some (PB 2 n d r l b g k)) := (ho _ (by omega)).trans HP4.out
  have HZ5 : Hid (w5.heap[w.heap.size + 1]? = some (PB 0 0 0 0 0 0 0 0)) := (ho _ (by omega)).trans HZ4.out
  have p5 := box8_cells HP5.out
  have n5 := box8_cells HN5.out
  clear hr ho hs hB HB4 HN4 HP4 HZ4 p4 n4
  go_wp2_with fail
  refine (lessS b 3 q hq.out _).mono ?_
  rintro e wz ⟨rfl, hwz⟩
  subst hwz
  go_wp2_with fail
  refine (lessS 0 q 0 hc.out _).mono ?_
  rintro e wz ⟨rfl, hwz⟩
  subst hwz
  go_upto_region 9 with fail
  go_wp2_with (refine listStoreC rfl rfl _ _ _ rfl rfl Q 5 (b) rfl rfl HN5.out (by simp) ?_)
  intro w6 hr ho hs hB
  have HB6 : Hid (Below w.heap.size w w6) := hB _ _ hl HB5.out
  have HN6 : Hid (w6.heap[Q]? = some (PB 2 n d r' l b g k)) := hr
  have HP6 : Hid (w6.heap[w.heap.size]? = some (PB 2 n d r l b g k)) := (ho _ (by omega)).trans HP5.out
  have HZ6 : Hid (w6.heap[w.heap.size + 1]? = some (PB 0 0 0 0 0 0 0 0)) := (ho _ (by omega)).trans HZ5.out
  have p6 := box8_cells HP6.out
  have n6 := box8_cells HN6.out
  clear hr ho hs hB HB5 HN5 HP5 HZ5 p5 n5
  go_wp2_with fail
  refine (lessS g 1000000000000 g hg2.out _).mono ?_
  rintro e wz ⟨rfl, hwz⟩
  subst hwz
  go_wp2_with (refine listStoreC rfl rfl _ _ _ rfl rfl Q 6 (g) rfl rfl HN6.out (by simp) ?_)
  intro w8 hr ho hs hB
  have HB8 : Hid (Below w.heap.size w w8) := hB _ _ hl HB6.out
  have HN8 : Hid (w8.heap[Q]? = some (PB 2 n d r' l b g k)) := hr
  have HP8 : Hid (w8.heap[w.heap.size]? = some (PB 2 n d r l b g k)) := (ho _ (by omega)).trans HP6.out
  have HZ8 : Hid (w8.heap[w.heap.size + 1]? = some (PB 0 0 0 0 0 0 0 0)) := (ho _ (by omega)).trans HZ6.out
  have p8 := box8_cells HP8.out
  have n8 := box8_cells HN8.out
  clear hr ho hs hB HB6 HN6 HP6 HZ6 p6 n6
  go_upto_region 16 with fail
  go_wp2_with (refine listStoreP rfl rfl _ _ _ rfl rfl (w.heap.size + 1) (2) (n) (d) (r') (l) (b) (g) (k) rfl rfl HZ8.out ?_)
  intro w99 hr9 ho9 hs9 hB9
  have HF : Hid (Below w.heap.size w w99) := hB9 _ _ (Nat.le_succ _) HB8.out
  obtain ⟨⟨q0, q1, q2, q3, q4, q5, q6, q7⟩, _⟩ := box8_cells hr9
  clear ho9 hs9 hB9 hr9
  go_wp2
  refine bodyPost_ret (v := PV 2 n d r' l b g k) (by simp only [results, Tryz.results56]; simp [go_sem, q0, q1, q2, q3, q4, q5, q6, q7]) rfl ⟨by rw [HT.out]; rfl, HF.out⟩
theorem giveS (p : Pm) (a : Int) (w : World) : Calls Tryz.prog 56 #[p.V, .int .i64 a] w fun e w' => e = .returned (p.give a).V ∧ Below w.heap.size w w' := by
  obtain ⟨s, n, d, r, l, b, g, k⟩ := p
  by_cases hp : Pm.ok ⟨s, n, d, r, l, b, g, k⟩
  · have hs : s = 0 ∨ s = 1 ∨ s = 2 ∨ s = 3 := by have := hp.1; dsimp only at this; omega
    have hrr : ratR n d r := hp.2.1
    have hpl : 0 ≤ l ∧ l ≤ 5000 := hp.2.2.2.1
    have hlp : 0 < l ↔ (s = 1 ∨ (s = 3 ∧ k = 1)) := hp.2.2.2.2.1
    have hpb : 0 ≤ b ∧ b ≤ 100 := hp.2.2.2.2.2.1
    have hpg : 0 ≤ g ∧ g ≤ 1000000000000 := hp.2.2.2.2.2.2.1
    have hw := wants_bd ⟨s, n, d, r, l, b, g, k⟩
    have KP : Hid (∀ w, Calls Tryz.prog 94 #[PV s n d r l b g k] w fun e w' => e = .returned (.bool true) ∧ Below w.heap.size w w') := fun w => pumpokS ⟨s, n, d, r, l, b, g, k⟩ true ⟨fun _ => hp, fun _ => rfl⟩ w
    obtain ⟨W, hW⟩ : ∃ W, Pm.wants ⟨s, n, d, r, l, b, g, k⟩ = W := ⟨_, rfl⟩
    rw [hW] at hw
    have KW : Hid (∀ w, Calls Tryz.prog 55 #[PV s n d r l b g k] w fun e w' => e = .returned (.int .i64 W) ∧ Below w.heap.size w w') := fun w => by rw [← hW]; exact wantsS ⟨s, n, d, r, l, b, g, k⟩ w
    have KR : Hid (∀ w, Calls Tryz.prog 110 #[.agg #[.int .i64 n, .int .i64 d, .int .i64 r]] w fun e w' => e = .returned (.tuple #[.agg #[.int .i64 n, .int .i64 d, .int .i64 ((r + n) % d)], .int .i64 ((r + n) / d)]) ∧ Below w.heap.size w w') := fun w => by
      have h := stepRS n d r w
      rw [show stepR n d r = (r + n) % d from if_pos hrr, show stepO n d r = (r + n) / d from if_pos hrr] at h
      exact h
    obtain ⟨m, hm⟩ : ∃ m, min a W = m := ⟨_, rfl⟩
    have hm6 : m ≤ 6 := by omega
    rcases hs with rfl | rfl | rfl | rfl
    · exact giveS_0 n d r l b g k a hp w
    · have hT : Pm.give ⟨1, n, d, r, l, b, g, k⟩ a = Pm.giveR ⟨1, n, d, r, l, b, g, k⟩ a := if_pos ⟨ok_yes hp, .inl rfl⟩
      by_cases hneg : m < 0
      · have hx : max m 0 = 0 := by omega
        have hc : min (0 : Int) (min b 3) = 0 := by omega
        have hl0 : ¬ l = 0 := by have := hlp.2 (.inl rfl); omega
        refine giveS_1n n d r l b g k a m W (min b 3) ((r + n) % d) ((r + n) / d) KP KW KR hm rfl hc (by show _ = _; omega) hneg (wrap_in (by omega) (by omega)) (wrap64_in (by omega) (by omega)) (wrap_in (by omega) (by omega)) (wrap64_in (by omega) (by omega)) (wrap_in (by omega) (by omega)) (wrap64_in (by omega) (by omega)) hl0 ?_ w
        show _ = _
        rw [hT]
        unfold Pm.giveR
        simp only [hW, hm, hx, hc]
        simp [hl0]
        omega
      · have hx : max m 0 = m := by omega
        obtain ⟨c, hc⟩ : ∃ c, min m (min b 3) = c := ⟨_, rfl⟩
        have hcb : 0 ≤ c ∧ c ≤ 3 ∧ c ≤ m := by omega
        by_cases hz : l - (m - c) = 0
        · refine giveS_1z n d r l b g k a m W c (min b 3) (b - c) (m - c) (g + m) (min (g + m) 1000000000000) ((r + n) % d) ((r + n) / d) KP KW KR hm rfl hc rfl (by omega) (wrap_in (by omega) (by omega)) (wrap_in (by omega) (by omega)) (wrap_in (by omega) (by omega)) (by rw [hz]; rfl) ?_ w
          show _ = _
          rw [hT]
          unfold Pm.giveR
          simp only [hW, hm, hx, hc]
          simp [hz]
        · refine giveS_1 n d r l b g k a m W c (min b 3) (b - c) (m - c) (l - (m - c)) (g + m) (min (g + m) 1000000000000) ((r + n) % d) ((r + n) / d) KP KW KR hm rfl hc rfl (by omega) (wrap_in (by omega) (by omega)) (wrap_in (by omega) (by omega)) (wrap_in (by omega) (by omega)) (wrap_in (by omega) (by omega)) hz ?_ w
          show _ = _
          rw [hT]
          unfold Pm.giveR
          simp only [hW, hm, hx, hc]
          simp [hz]
    · have hT : Pm.give ⟨2, n, d, r, l, b, g, k⟩ a = Pm.giveR ⟨2, n, d, r, l, b, g, k⟩ a := if_pos ⟨ok_yes hp, .inr rfl⟩
      by_cases hneg : m < 0
      · have hx : max m 0 = 0 := by omega
        have hc : min (0 : Int) (min b 3) = 0 := by omega
        refine giveS_2n n d r l b g k a m W (min b 3) ((r + n) % d) ((r + n) / d) KP KW KR hm rfl hc (by show _ = _; omega) hneg (wrap_in (by omega) (by omega)) (wrap64_in (by omega) (by omega)) (wrap_in (by omega) (by omega)) (wrap64_in (by omega) (by omega)) (wrap_in (by omega) (by omega)) (wrap64_in (by omega) (by omega)) ?_ w
        show _ = _
        rw [hT]
        unfold Pm.giveR
        simp only [hW, hm, hx, hc]
        simp
        omega
      · have hx : max m 0 = m := by omega
        obtain ⟨c, hc⟩ : ∃ c, min m (min b 3) = c := ⟨_, rfl⟩
        have hcb : 0 ≤ c ∧ c ≤ 3 ∧ c ≤ m := by omega
        refine giveS_2 n d r l b g k a m W c (min b 3) (b - c) (g + m) (min (g + m) 1000000000000) ((r + n) % d) ((r + n) / d) KP KW KR hm rfl hc rfl (by omega) (wrap_in (by omega) (by omega)) (wrap_in (by omega) (by omega)) ?_ w
        show _ = _
        rw [hT]
        unfold Pm.giveR
        simp only [hW, hm, hx, hc]
        simp
    · exact giveS_3 n d r l b g k a hp w
  · exact giveS_no s n d r l b g k a hp w
end Go.Proofs.YtfhhnelffldggaaGreatDoor
