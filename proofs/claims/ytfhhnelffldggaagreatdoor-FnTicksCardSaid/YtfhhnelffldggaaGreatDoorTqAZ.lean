/-
  Keys rune by rune: what is more than a byte changes nothing.
-/
import Derived.Test.YtfhhnelffldggaaGreatDoorTqAG
import Derived.Laws.RangeAny
import Derived.Test.YtfhhnelffldggaaGreatDoorTqAI
import Derived.Test.YtfhhnelffldggaaGreatDoorTqAK
import Derived.Test.YtfhhnelffldggaaGreatDoorTqAV
set_option maxRecDepth 100000
set_option maxHeartbeats 16000000
namespace Go.Proofs.YtfhhnelffldggaaGreatDoor
open Go.RowKit Go.PlainAid
set_option linter.unusedVariables false
set_option linter.unusedSimpArgs false
theorem press_high (m : Mn) {key : Int} (h : 128 ≤ key) : pressM m key = noP m := by
  unfold pressM
  by_cases h1 : okM m = false
  · rw [if_pos h1]
  rw [if_neg h1]
  by_cases h2 : m.a = 1
  · rw [if_pos h2]
    unfold topM
    rw [if_neg (by omega), if_neg (by omega), if_neg (by omega), if_neg (by omega), if_neg (by omega), if_neg (by omega)]
  rw [if_neg h2, if_neg (by omega), if_neg (by omega), if_pos (by omega)]
theorem all_high : ∀ (l : List UInt8) (m : Mn), (∀ x ∈ l, 128 ≤ x.toNat) → allM m l = (m, [])
  | [], m, h => rfl
  | x :: l, m, h => by
    have hp : pressM m (x.toNat : Int) = noP m := press_high m (by have := h x (List.mem_cons_self ..); omega)
    have ih := all_high l m (fun y hy => h y (List.mem_cons_of_mem _ hy))
    rw [allM_cons, hp]
    dsimp only [noP]
    rw [ih]
    rfl
theorem dec_wide (K : ByteArray) (pos : Nat) (h : pos < K.size) (ha : 128 ≤ (K[pos]'h).toNat) : pos + (Utf8.decode K pos).2 ≤ K.size ∧ ∀ i, i < (Utf8.decode K pos).2 → 128 ≤ (K.get! (pos + i)).toNat := by
  have hn : ¬ (K[pos]'h).toNat < 128 := by omega
  have h0 : 128 ≤ (K.get! (pos + 0)).toNat := by rw [get_at K pos h]; exact ha
  have one : ∀ i, i < 1 → 128 ≤ (K.get! (pos + i)).toNat := fun i hi => by
    obtain rfl : i = 0 := by omega
    exact h0
  simp only [Utf8.decode, get_at K pos h, hn, if_false]
  by_cases c2 : ((K[pos]'h).toNat / 32 == 6 && (decide (pos + 1 < K.size) && (K.get! (pos + 1)).toNat / 64 == 2)) = true
  · rw [if_pos c2]
    simp only [Bool.and_eq_true, decide_eq_true_eq, beq_iff_eq] at c2
    have h1 : 128 ≤ (K.get! (pos + 1)).toNat := by omega
    split
    · refine ⟨by show pos + 2 ≤ K.size; omega, fun i hi => ?_⟩
      have hi2 : i = 0 ∨ i = 1 := by have : i < 2 := hi; omega
      rcases hi2 with rfl | rfl
      · exact h0
      · exact h1
    · exact ⟨by show pos + 1 ≤ K.size; omega, one⟩
  rw [if_neg c2]
  by_cases c3 : ((K[pos]'h).toNat / 16 == 14 && (decide (pos + 1 < K.size) && (K.get! (pos + 1)).toNat / 64 == 2) && (decide (pos + 2 < K.size) && (K.get! (pos + 2)).toNat / 64 == 2)) = true
  · rw [if_pos c3]
    simp only [Bool.and_eq_true, decide_eq_true_eq, beq_iff_eq] at c3
    have h1 : 128 ≤ (K.get! (pos + 1)).toNat := by omega
    have h2 : 128 ≤ (K.get! (pos + 2)).toNat := by omega
    split
    · refine ⟨by show pos + 3 ≤ K.size; omega, fun i hi => ?_⟩
      have hi2 : i = 0 ∨ i = 1 ∨ i = 2 := by have : i < 3 := hi; omega
      rcases hi2 with rfl | rfl | rfl
      · exact h0
      · exact h1
      · exact h2
    · exact ⟨by show pos + 1 ≤ K.size; omega, one⟩
  rw [if_neg c3]
  by_cases c4 : ((K[pos]'h).toNat / 8 == 30 && (decide (pos + 1 < K.size) && (K.get! (pos + 1)).toNat / 64 == 2) && (decide (pos + 2 < K.size) && (K.get! (pos + 2)).toNat / 64 == 2) && (decide (pos + 3 < K.size) && (K.get! (pos + 3)).toNat / 64 == 2)) = true
  · rw [if_pos c4]
    simp only [Bool.and_eq_true, decide_eq_true_eq, beq_iff_eq] at c4
    have h1 : 128 ≤ (K.get! (pos + 1)).toNat := by omega
    have h2 : 128 ≤ (K.get! (pos + 2)).toNat := by omega
    have h3 : 128 ≤ (K.get! (pos + 3)).toNat := by omega
    split
    · refine ⟨by show pos + 4 ≤ K.size; omega, fun i hi => ?_⟩
      have hi2 : i = 0 ∨ i = 1 ∨ i = 2 ∨ i = 3 := by have : i < 4 := hi; omega
      rcases hi2 with rfl | rfl | rfl | rfl
      · exact h0
      · exact h1
      · exact h2
      · exact h3
    · exact ⟨by show pos + 1 ≤ K.size; omega, one⟩
  rw [if_neg c4]
  exact ⟨by show pos + 1 ≤ K.size; omega, one⟩
theorem all_rune {ks : List UInt8} {K : ByteArray} (hK : (⟨ks.toArray⟩ : ByteArray) = K) {pos : Nat} (h : pos < K.size) (m M : Mn) (l : List Od4) (hM : allM m (ks.take pos) = (M, l)) :
    1 ≤ (Utf8.decode K pos).2 ∧ pos + (Utf8.decode K pos).2 ≤ K.size ∧ allM m (ks.take (pos + (Utf8.decode K pos).2)) = ((pressM M ((Utf8.decode K pos).1 : Int)).m, if (pressM M ((Utf8.decode K pos).1 : Int)).t = true then l ++ [((pressM M ((Utf8.decode K pos).1 : Int)).k, (pressM M ((Utf8.decode K pos).1 : Int)).n, (pressM M ((Utf8.decode K pos).1 : Int)).d, (pressM M ((Utf8.decode K pos).1 : Int)).v)] else l) := by
  have hsz := txt_size hK
  have hl : pos < ks.length := by omega
  have hb : (K[pos]'h) = ks[pos] := by subst hK; rfl
  by_cases ha : (K[pos]'h).toNat < 128
  · have e := decode_ascii K pos h ha
    rw [e]
    refine ⟨Nat.le_refl _, by show pos + 1 ≤ K.size; omega, ?_⟩
    show allM m (ks.take (pos + 1)) = _
    rw [allM_take hl, hM, hb]
  · have ha' : 128 ≤ (K[pos]'h).toNat := by omega
    obtain ⟨d1, d2⟩ := decode_high K pos h ha'
    obtain ⟨d3, d4⟩ := dec_wide K pos h ha'
    refine ⟨d2, d3, ?_⟩
    have hp : pressM M ((Utf8.decode K pos).1 : Int) = noP M := press_high M (by omega)
    rw [hp]
    have e : ks.take (pos + (Utf8.decode K pos).2) = ks.take pos ++ (ks.drop pos).take (Utf8.decode K pos).2 := by rw [List.take_add]
    rw [e, allM_app, hM]
    dsimp only
    rw [all_high _ M (fun x hx => by
      obtain ⟨i, hi, rfl⟩ := List.getElem_of_mem hx
      have hi1 : i < (Utf8.decode K pos).2 := by simp at hi; omega
      have hi2 : pos + i < ks.length := by omega
      have h5 := d4 i hi1
      have h6 : (ks.drop pos |>.take (Utf8.decode K pos).2)[i] = ks[pos + i] := by rw [List.getElem_take, List.getElem_drop]
      rw [h6]
      have h7 : K.get! (pos + i) = ks[pos + i] := by
        subst hK
        have hs : pos + i < (⟨ks.toArray⟩ : ByteArray).size := by rw [hsz]; exact hi2
        simp [ByteArray.get!, getElem!_pos, hi2]
      rw [← h7]
      exact h5)]
    dsimp only [noP]
    rw [List.append_nil]
    rfl
theorem dec_max (K : ByteArray) (pos : Nat) : (Utf8.decode K pos).1 ≤ 2147483647 := decode_le K pos
theorem takeS_5_0 (n d r l b g k N D V : Int) (hp : Pm.ok ⟨0, n, d, r, l, b, g, k⟩) (ho : OrdR 5 N D V) (w : World) : Calls Tryz.prog 52 #[PV 0 n d r l b g k, .agg #[.int .i64 5, .int .i64 N, .int .i64 D, .int .i64 V]] w fun e w' => e = .returned (.tuple #[(Pm.take ⟨0, n, d, r, l, b, g, k⟩ 5 N D V).1.V, .bool (Pm.take ⟨0, n, d, r, l, b, g, k⟩ 5 N D V).2]) ∧ Below w.heap.size w w' := by
  have HT : Hid (Pm.take ⟨0, n, d, r, l, b, g, k⟩ 5 N D V = (⟨0, n, d, r, l, b, g, k⟩, false)) := by show _ = _; unfold Pm.take; rw [or_yes ho, ok_yes hp]; simp
  have KP := kpS hp
  have KO := koS ho
  clear hp ho
  obtain ⟨HB0, HP0, HO0, HZ0⟩ := t4s w (PB 0 n d r l b g k) (oB 5 N D V) (PB 0 0 0 0 0 0 0 0)
  have p0 := box8_cells HP0.out
  have o0 := box4_cells HO0.out
  go_enter Tryz.func52, Tryz.ntmps52
  go_wp2_with fail
  refine (KP.out _).mono ?_
  rintro e w1 ⟨rfl, hb1⟩
  obtain ⟨HB1, HP1, HO1, HZ1⟩ := t4o HB0 HP0 HO0 HZ0 hb1
  have p1 := box8_cells HP1.out
  have o1 := box4_cells HO1.out
  have z1 := box8_cells HZ1.out
  clear hb1 HB0 HP0 HO0 HZ0 p0 o0
  go_wp2_with fail
  refine (KO.out _).mono ?_
  rintro e w2 ⟨rfl, hb2⟩
  obtain ⟨HB2, HP2, HO2, HZ2⟩ := t4o HB1 HP1 HO1 HZ1 hb2
  have p2 := box8_cells HP2.out
  have o2 := box4_cells HO2.out
  have z2 := box8_cells HZ2.out
  have hl2 := row_lt HZ2.out
  clear hb2 HB1 HP1 HO1 HZ1 p1 o1 z1
  obtain ⟨HN2, HPa, HOa, HZa, HBa⟩ := t4a HB2 HP2 HO2 HZ2 (PB 0 0 0 0 0 0 0 0)
  go_wp2_with (refine listStoreP rfl rfl _ _ _ rfl rfl w2.heap.size (0) (n) (d) (r) (l) (b) (g) (k) rfl rfl HN2.out ?_)
  intro w3 hr3 ho3 hs3 hB3
  have hl3 : w.heap.size ≤ w2.heap.size := by omega
  have HB3 : Hid (Below w.heap.size w w3) := hB3 _ _ hl3 HBa.out
  have HN3 : Hid (w3.heap[w2.heap.size]? = some (PB 0 n d r l b g k)) := hr3
  obtain ⟨HP3, HO3, HZ3⟩ := t4p HPa HOa HZa hl2 ho3
  have p3 := box8_cells HP3.out
  have o3 := box4_cells HO3.out
  have n3 := box8_cells HN3.out
  clear hr3 ho3 hs3 hB3 HN2 HPa HOa HZa HBa HP2 HO2 HZ2 HB2 p2 o2 z2
  have HB4 : Hid (Below w.heap.size w w3) := HB3.out
  have HZ4 : Hid (w3.heap[w.heap.size + 1 + 1]? = some (PB 0 0 0 0 0 0 0 0)) := HZ3.out
  go_upto_region 5 with fail
  go_wp2_with (refine listStoreP rfl rfl _ _ _ rfl rfl (w.heap.size + 1 + 1) (0) (n) (d) (r) (l) (b) (g) (k) rfl rfl HZ4.out ?_)
  intro w9 hr9 ho9 hs9 hB9
  have HF : Hid (Below w.heap.size w w9) := hB9 _ _ (le2 _) HB4.out
  have HRf : Hid (w9.heap[w.heap.size + 1 + 1]? = some (PB 0 n d r l b g k)) := hr9
  clear ho9 hs9 hB9 hr9
  obtain ⟨⟨q0, q1, q2, q3, q4, q5, q6, q7⟩, _⟩ := box8_cells HRf.out
  go_wp2
  refine bodyPost_ret (v := .tuple #[PV 0 n d r l b g k, .bool false]) (by simp only [results, Tryz.results52]; simp [go_sem, q0, q1, q2, q3, q4, q5, q6, q7]) rfl ⟨by rw [HT.out]; rfl, HF.out⟩
theorem takeS_5_1 (n d r l b g k N D V : Int) (hp : Pm.ok ⟨1, n, d, r, l, b, g, k⟩) (ho : OrdR 5 N D V) (w : World) : Calls Tryz.prog 52 #[PV 1 n d r l b g k, .agg #[.int .i64 5, .int .i64 N, .int .i64 D, .int .i64 V]] w fun e w' => e = .returned (.tuple #[(Pm.take ⟨1, n, d, r, l, b, g, k⟩ 5 N D V).1.V, .bool (Pm.take ⟨1, n, d, r, l, b, g, k⟩ 5 N D V).2]) ∧ Below w.heap.size w w' := by
  have HT : Hid (Pm.take ⟨1, n, d, r, l, b, g, k⟩ 5 N D V = (⟨1, n, d, r, l, b, g, k⟩, false)) := by show _ = _; unfold Pm.take; rw [or_yes ho, ok_yes hp]; simp
  have KP := kpS hp
  have KO := koS ho
  clear hp ho
  obtain ⟨HB0, HP0, HO0, HZ0⟩ := t4s w (PB 1 n d r l b g k) (oB 5 N D V) (PB 0 0 0 0 0 0 0 0)
  have p0 := box8_cells HP0.out
  have o0 := box4_cells HO0.out
  go_enter Tryz.func52, Tryz.ntmps52
  go_wp2_with fail
  refine (KP.out _).mono ?_
  rintro e w1 ⟨rfl, hb1⟩
  obtain ⟨HB1, HP1, HO1, HZ1⟩ := t4o HB0 HP0 HO0 HZ0 hb1
  have p1 := box8_cells HP1.out
  have o1 := box4_cells HO1.out
  have z1 := box8_cells HZ1.out
  clear hb1 HB0 HP0 HO0 HZ0 p0 o0
  go_wp2_with fail
  refine (KO.out _).mono ?_
  rintro e w2 ⟨rfl, hb2⟩
  obtain ⟨HB2, HP2, HO2, HZ2⟩ := t4o HB1 HP1 HO1 HZ1 hb2
  have p2 := box8_cells HP2.out
  have o2 := box4_cells HO2.out
  have z2 := box8_cells HZ2.out
  have hl2 := row_lt HZ2.out
  clear hb2 HB1 HP1 HO1 HZ1 p1 o1 z1
  obtain ⟨HN2, HPa, HOa, HZa, HBa⟩ := t4a HB2 HP2 HO2 HZ2 (PB 0 0 0 0 0 0 0 0)
  go_wp2_with (refine listStoreP rfl rfl _ _ _ rfl rfl w2.heap.size (1) (n) (d) (r) (l) (b) (g) (k) rfl rfl HN2.out ?_)
  intro w3 hr3 ho3 hs3 hB3
  have hl3 : w.heap.size ≤ w2.heap.size := by omega
  have HB3 : Hid (Below w.heap.size w w3) := hB3 _ _ hl3 HBa.out
  have HN3 : Hid (w3.heap[w2.heap.size]? = some (PB 1 n d r l b g k)) := hr3
  obtain ⟨HP3, HO3, HZ3⟩ := t4p HPa HOa HZa hl2 ho3
  have p3 := box8_cells HP3.out
  have o3 := box4_cells HO3.out
  have n3 := box8_cells HN3.out
  clear hr3 ho3 hs3 hB3 HN2 HPa HOa HZa HBa HP2 HO2 HZ2 HB2 p2 o2 z2
  have HB4 : Hid (Below w.heap.size w w3) := HB3.out
  have HZ4 : Hid (w3.heap[w.heap.size + 1 + 1]? = some (PB 0 0 0 0 0 0 0 0)) := HZ3.out
  go_upto_region 5 with fail
  go_wp2_with (refine listStoreP rfl rfl _ _ _ rfl rfl (w.heap.size + 1 + 1) (1) (n) (d) (r) (l) (b) (g) (k) rfl rfl HZ4.out ?_)
  intro w9 hr9 ho9 hs9 hB9
  have HF : Hid (Below w.heap.size w w9) := hB9 _ _ (le2 _) HB4.out
  have HRf : Hid (w9.heap[w.heap.size + 1 + 1]? = some (PB 1 n d r l b g k)) := hr9
  clear ho9 hs9 hB9 hr9
  obtain ⟨⟨q0, q1, q2, q3, q4, q5, q6, q7⟩, _⟩ := box8_cells HRf.out
  go_wp2
  refine bodyPost_ret (v := .tuple #[PV 1 n d r l b g k, .bool false]) (by simp only [results, Tryz.results52]; simp [go_sem, q0, q1, q2, q3, q4, q5, q6, q7]) rfl ⟨by rw [HT.out]; rfl, HF.out⟩
theorem takeS_5_2 (n d r l b g k N D V : Int) (hp : Pm.ok ⟨2, n, d, r, l, b, g, k⟩) (ho : OrdR 5 N D V) (w : World) : Calls Tryz.prog 52 #[PV 2 n d r l b g k, .agg #[.int .i64 5, .int .i64 N, .int .i64 D, .int .i64 V]] w fun e w' => e = .returned (.tuple #[(Pm.take ⟨2, n, d, r, l, b, g, k⟩ 5 N D V).1.V, .bool (Pm.take ⟨2, n, d, r, l, b, g, k⟩ 5 N D V).2]) ∧ Below w.heap.size w w' := by
  have HT : Hid (Pm.take ⟨2, n, d, r, l, b, g, k⟩ 5 N D V = (⟨2, n, d, r, l, b, g, k⟩, false)) := by show _ = _; unfold Pm.take; rw [or_yes ho, ok_yes hp]; simp
  have KP := kpS hp
  have KO := koS ho
  clear hp ho
  obtain ⟨HB0, HP0, HO0, HZ0⟩ := t4s w (PB 2 n d r l b g k) (oB 5 N D V) (PB 0 0 0 0 0 0 0 0)
  have p0 := box8_cells HP0.out
  have o0 := box4_cells HO0.out
  go_enter Tryz.func52, Tryz.ntmps52
  go_wp2_with fail
  refine (KP.out _).mono ?_
  rintro e w1 ⟨rfl, hb1⟩
  obtain ⟨HB1, HP1, HO1, HZ1⟩ := t4o HB0 HP0 HO0 HZ0 hb1
  have p1 := box8_cells HP1.out
  have o1 := box4_cells HO1.out
  have z1 := box8_cells HZ1.out
  clear hb1 HB0 HP0 HO0 HZ0 p0 o0
  go_wp2_with fail
  refine (KO.out _).mono ?_
  rintro e w2 ⟨rfl, hb2⟩
  obtain ⟨HB2, HP2, HO2, HZ2⟩ := t4o HB1 HP1 HO1 HZ1 hb2
  have p2 := box8_cells HP2.out
  have o2 := box4_cells HO2.out
  have z2 := box8_cells HZ2.out
  have hl2 := row_lt HZ2.out
  clear hb2 HB1 HP1 HO1 HZ1 p1 o1 z1
  obtain ⟨HN2, HPa, HOa, HZa, HBa⟩ := t4a HB2 HP2 HO2 HZ2 (PB 0 0 0 0 0 0 0 0)
  go_wp2_with (refine listStoreP rfl rfl _ _ _ rfl rfl w2.heap.size (2) (n) (d) (r) (l) (b) (g) (k) rfl rfl HN2.out ?_)
  intro w3 hr3 ho3 hs3 hB3
  have hl3 : w.heap.size ≤ w2.heap.size := by omega
  have HB3 : Hid (Below w.heap.size w w3) := hB3 _ _ hl3 HBa.out
  have HN3 : Hid (w3.heap[w2.heap.size]? = some (PB 2 n d r l b g k)) := hr3
  obtain ⟨HP3, HO3, HZ3⟩ := t4p HPa HOa HZa hl2 ho3
  have p3 := box8_cells HP3.out
  have o3 := box4_cells HO3.out
  have n3 := box8_cells HN3.out
  clear hr3 ho3 hs3 hB3 HN2 HPa HOa HZa HBa HP2 HO2 HZ2 HB2 p2 o2 z2
  have HB4 : Hid (Below w.heap.size w w3) := HB3.out
  have HZ4 : Hid (w3.heap[w.heap.size + 1 + 1]? = some (PB 0 0 0 0 0 0 0 0)) := HZ3.out
  go_upto_region 5 with fail
  go_wp2_with (refine listStoreP rfl rfl _ _ _ rfl rfl (w.heap.size + 1 + 1) (2) (n) (d) (r) (l) (b) (g) (k) rfl rfl HZ4.out ?_)
  intro w9 hr9 ho9 hs9 hB9
  have HF : Hid (Below w.heap.size w w9) := hB9 _ _ (le2 _) HB4.out
  have HRf : Hid (w9.heap[w.heap.size + 1 + 1]? = some (PB 2 n d r l b g k)) := hr9
  clear ho9 hs9 hB9 hr9
  obtain ⟨⟨q0, q1, q2, q3, q4, q5, q6, q7⟩, _⟩ := box8_cells HRf.out
  go_wp2
  refine bodyPost_ret (v := .tuple #[PV 2 n d r l b g k, .bool false]) (by simp only [results, Tryz.results52]; simp [go_sem, q0, q1, q2, q3, q4, q5, q6, q7]) rfl ⟨by rw [HT.out]; rfl, HF.out⟩
theorem takeS_5_3 (n d r l b g k N D V : Int) (hp : Pm.ok ⟨3, n, d, r, l, b, g, k⟩) (ho : OrdR 5 N D V) (w : World) : Calls Tryz.prog 52 #[PV 3 n d r l b g k, .agg #[.int .i64 5, .int .i64 N, .int .i64 D, .int .i64 V]] w fun e w' => e = .returned (.tuple #[(Pm.take ⟨3, n, d, r, l, b, g, k⟩ 5 N D V).1.V, .bool (Pm.take ⟨3, n, d, r, l, b, g, k⟩ 5 N D V).2]) ∧ Below w.heap.size w w' := by
  have HT : Hid (Pm.take ⟨3, n, d, r, l, b, g, k⟩ 5 N D V = (⟨3, n, d, r, l, b, g, k⟩, false)) := by show _ = _; unfold Pm.take; rw [or_yes ho, ok_yes hp]; simp
  have KP := kpS hp
  have KO := koS ho
  clear hp ho
  obtain ⟨HB0, HP0, HO0, HZ0⟩ := t4s w (PB 3 n d r l b g k) (oB 5 N D V) (PB 0 0 0 0 0 0 0 0)
  have p0 := box8_cells HP0.out
  have o0 := box4_cells HO0.out
  go_enter Tryz.func52, Tryz.ntmps52
  go_wp2_with fail
  refine (KP.out _).mono ?_
  rintro e w1 ⟨rfl, hb1⟩
  obtain ⟨HB1, HP1, HO1, HZ1⟩ := t4o HB0 HP0 HO0 HZ0 hb1
  have p1 := box8_cells HP1.out
  have o1 := box4_cells HO1.out
  have z1 := box8_cells HZ1.out
  clear hb1 HB0 HP0 HO0 HZ0 p0 o0
  go_wp2_with fail
  refine (KO.out _).mono ?_
  rintro e w2 ⟨rfl, hb2⟩
  obtain ⟨HB2, HP2, HO2, HZ2⟩ := t4o HB1 HP1 HO1 HZ1 hb2
  have p2 := box8_cells HP2.out
  have o2 := box4_cells HO2.out
  have z2 := box8_cells HZ2.out
  have hl2 := row_lt HZ2.out
  clear hb2 HB1 HP1 HO1 HZ1 p1 o1 z1
  obtain ⟨HN2, HPa, HOa, HZa, HBa⟩ := t4a HB2 HP2 HO2 HZ2 (PB 0 0 0 0 0 0 0 0)
  go_wp2_with (refine listStoreP rfl rfl _ _ _ rfl rfl w2.heap.size (3) (n) (d) (r) (l) (b) (g) (k) rfl rfl HN2.out ?_)
  intro w3 hr3 ho3 hs3 hB3
  have hl3 : w.heap.size ≤ w2.heap.size := by omega
  have HB3 : Hid (Below w.heap.size w w3) := hB3 _ _ hl3 HBa.out
  have HN3 : Hid (w3.heap[w2.heap.size]? = some (PB 3 n d r l b g k)) := hr3
  obtain ⟨HP3, HO3, HZ3⟩ := t4p HPa HOa HZa hl2 ho3
  have p3 := box8_cells HP3.out
  have o3 := box4_cells HO3.out
  have n3 := box8_cells HN3.out
  clear hr3 ho3 hs3 hB3 HN2 HPa HOa HZa HBa HP2 HO2 HZ2 HB2 p2 o2 z2
  have HB4 : Hid (Below w.heap.size w w3) := HB3.out
  have HZ4 : Hid (w3.heap[w.heap.size + 1 + 1]? = some (PB 0 0 0 0 0 0 0 0)) := HZ3.out
  go_upto_region 5 with fail
  go_wp2_with (refine listStoreP rfl rfl _ _ _ rfl rfl (w.heap.size + 1 + 1) (3) (n) (d) (r) (l) (b) (g) (k) rfl rfl HZ4.out ?_)
  intro w9 hr9 ho9 hs9 hB9
  have HF : Hid (Below w.heap.size w w9) := hB9 _ _ (le2 _) HB4.out
  have HRf : Hid (w9.heap[w.heap.size + 1 + 1]? = some (PB 3 n d r l b g k)) := hr9
  clear ho9 hs9 hB9 hr9
  obtain ⟨⟨q0, q1, q2, q3, q4, q5, q6, q7⟩, _⟩ := box8_cells HRf.out
  go_wp2
  refine bodyPost_ret (v := .tuple #[PV 3 n d r l b g k, .bool false]) (by simp only [results, Tryz.results52]; simp [go_sem, q0, q1, q2, q3, q4, q5, q6, q7]) rfl ⟨by rw [HT.out]; rfl, HF.out⟩
theorem takeS_6_0 (n d r l b g k N D V : Int) (hp : Pm.ok ⟨0, n, d, r, l, b, g, k⟩) (ho : OrdR 6 N D V) (w : World) : Calls Tryz.prog 52 #[PV 0 n d r l b g k, .agg #[.int .i64 6, .int .i64 N, .int .i64 D, .int .i64 V]] w fun e w' => e = .returned (.tuple #[(Pm.take ⟨0, n, d, r, l, b, g, k⟩ 6 N D V).1.V, .bool (Pm.take ⟨0, n, d, r, l, b, g, k⟩ 6 N D V).2]) ∧ Below w.heap.size w w' := by
  have HT : Hid (Pm.take ⟨0, n, d, r, l, b, g, k⟩ 6 N D V = (⟨0, n, d, r, 0, 0, g, 0⟩, true)) := by show _ = _; unfold Pm.take; rw [or_yes ho, ok_yes hp]; simp
  have KP := kpS hp
  have KO := koS ho
  clear hp ho
  obtain ⟨HB0, HP0, HO0, HZ0⟩ := t4s w (PB 0 n d r l b g k) (oB 6 N D V) (PB 0 0 0 0 0 0 0 0)
  have p0 := box8_cells HP0.out
  have o0 := box4_cells HO0.out
  go_enter Tryz.func52, Tryz.ntmps52
  go_wp2_with fail
  refine (KP.out _).mono ?_
  rintro e w1 ⟨rfl, hb1⟩
  obtain ⟨HB1, HP1, HO1, HZ1⟩ := t4o HB0 HP0 HO0 HZ0 hb1
  have p1 := box8_cells HP1.out
  have o1 := box4_cells HO1.out
  have z1 := box8_cells HZ1.out
  clear hb1 HB0 HP0 HO0 HZ0 p0 o0
  go_wp2_with fail
  refine (KO.out _).mono ?_
  rintro e w2 ⟨rfl, hb2⟩
  obtain ⟨HB2, HP2, HO2, HZ2⟩ := t4o HB1 HP1 HO1 HZ1 hb2
  have p2 := box8_cells HP2.out
  have o2 := box4_cells HO2.out
  have z2 := box8_cells HZ2.out
  have hl2 := row_lt HZ2.out
  clear hb2 HB1 HP1 HO1 HZ1 p1 o1 z1
  obtain ⟨HN2, HPa, HOa, HZa, HBa⟩ := t4a HB2 HP2 HO2 HZ2 (PB 0 0 0 0 0 0 0 0)
  go_wp2_with (refine listStoreP rfl rfl _ _ _ rfl rfl w2.heap.size (0) (n) (d) (r) (l) (b) (g) (k) rfl rfl HN2.out ?_)
  intro w3 hr3 ho3 hs3 hB3
  have hl3 : w.heap.size ≤ w2.heap.size := by omega
  have HB3 : Hid (Below w.heap.size w w3) := hB3 _ _ hl3 HBa.out
  have HN3 : Hid (w3.heap[w2.heap.size]? = some (PB 0 n d r l b g k)) := hr3
  obtain ⟨HP3, HO3, HZ3⟩ := t4p HPa HOa HZa hl2 ho3
  have p3 := box8_cells HP3.out
  have o3 := box4_cells HO3.out
  have n3 := box8_cells HN3.out
  clear hr3 ho3 hs3 hB3 HN2 HPa HOa HZa HBa HP2 HO2 HZ2 HB2 p2 o2 z2
  go_upto_region 27 with fail
  go_wp2_with (refine listStoreC rfl rfl _ _ _ rfl rfl w2.heap.size 0 (0) rfl rfl HN3.out (by simp) ?_)
  intro w30 hr ho hs hB
  have HB30 : Hid (Below w.heap.size w w30) := hB _ _ hl3 HB3.out
  have HN30 : Hid (w30.heap[w2.heap.size]? = some (PB 0 n d r l b g k)) := hr
  have HP30 : Hid (w30.heap[w.heap.size]? = some (PB 0 n d r l b g k)) := (ho _ (by omega)).trans HP3.out
  have HO30 : Hid (w30.heap[w.heap.size + 1]? = some (oB 6 N D V)) := (ho _ (by omega)).trans HO3.out
  have HZ30 : Hid (w30.heap[w.heap.size + 1 + 1]? = some (PB 0 0 0 0 0 0 0 0)) := (ho _ (by omega)).trans HZ3.out
  have p30 := box8_cells HP30.out
  have o30 := box4_cells HO30.out
  have n30 := box8_cells HN30.out
  clear hr ho hs hB HB3 HN3 HP3 HO3 HZ3 p3 o3 n3
  go_upto_region 28 with fail
  go_wp2_with (refine listStoreC rfl rfl _ _ _ rfl rfl w2.heap.size 4 (0) rfl rfl HN30.out (by simp) ?_)
  intro w31 hr ho hs hB
  have HB31 : Hid (Below w.heap.size w w31) := hB _ _ hl3 HB30.out
  have HN31 : Hid (w31.heap[w2.heap.size]? = some (PB 0 n d r 0 b g k)) := hr
  have HP31 : Hid (w31.heap[w.heap.size]? = some (PB 0 n d r l b g k)) := (ho _ (by omega)).trans HP30.out
  have HO31 : Hid (w31.heap[w.heap.size + 1]? = some (oB 6 N D V)) := (ho _ (by omega)).trans HO30.out
  have HZ31 : Hid (w31.heap[w.heap.size + 1 + 1]? = some (PB 0 0 0 0 0 0 0 0)) := (ho _ (by omega)).trans HZ30.out
  have p31 := box8_cells HP31.out
  have o31 := box4_cells HO31.out
  have n31 := box8_cells HN31.out
  clear hr ho hs hB HB30 HN30 HP30 HO30 HZ30 p30 o30 n30
  go_upto_region 29 with fail
  go_wp2_with (refine listStoreC rfl rfl _ _ _ rfl rfl w2.heap.size 5 (0) rfl rfl HN31.out (by simp) ?_)
  intro w32 hr ho hs hB
  have HB32 : Hid (Below w.heap.size w w32) := hB _ _ hl3 HB31.out
  have HN32 : Hid (w32.heap[w2.heap.size]? = some (PB 0 n d r 0 0 g k)) := hr
  have HP32 : Hid (w32.heap[w.heap.size]? = some (PB 0 n d r l b g k)) := (ho _ (by omega)).trans HP31.out
  have HO32 : Hid (w32.heap[w.heap.size + 1]? = some (oB 6 N D V)) := (ho _ (by omega)).trans HO31.out
  have HZ32 : Hid (w32.heap[w.heap.size + 1 + 1]? = some (PB 0 0 0 0 0 0 0 0)) := (ho _ (by omega)).trans HZ31.out
  have p32 := box8_cells HP32.out
  have o32 := box4_cells HO32.out
  have n32 := box8_cells HN32.out
  clear hr ho hs hB HB31 HN31 HP31 HO31 HZ31 p31 o31 n31
  go_upto_region 30 with fail
  go_wp2_with (refine listStoreC rfl rfl _ _ _ rfl rfl w2.heap.size 7 (0) rfl rfl HN32.out (by simp) ?_)
  intro w33 hr ho hs hB
  have HB33 : Hid (Below w.heap.size w w33) := hB _ _ hl3 HB32.out
  have HN33 : Hid (w33.heap[w2.heap.size]? = some (PB 0 n d r 0 0 g 0)) := hr
  have HP33 : Hid (w33.heap[w.heap.size]? = some (PB 0 n d r l b g k)) := (ho _ (by omega)).trans HP32.out
  have HO33 : Hid (w33.heap[w.heap.size + 1]? = some (oB 6 N D V)) := (ho _ (by omega)).trans HO32.out
  have HZ33 : Hid (w33.heap[w.heap.size + 1 + 1]? = some (PB 0 0 0 0 0 0 0 0)) := (ho _ (by omega)).trans HZ32.out
  have p33 := box8_cells HP33.out
  have o33 := box4_cells HO33.out
  have n33 := box8_cells HN33.out
  clear hr ho hs hB HB32 HN32 HP32 HO32 HZ32 p32 o32 n32
  have HB4 : Hid (Below w.heap.size w w33) := HB33.out
  have HZ4 : Hid (w33.heap[w.heap.size + 1 + 1]? = some (PB 0 0 0 0 0 0 0 0)) := HZ33.out
  go_upto_region 31 with fail
  go_wp2_with (refine listStoreP rfl rfl _ _ _ rfl rfl (w.heap.size + 1 + 1) (0) (n) (d) (r) (0) (0) (g) (0) rfl rfl HZ4.out ?_)
  intro w9 hr9 ho9 hs9 hB9
  have HF : Hid (Below w.heap.size w w9) := hB9 _ _ (le2 _) HB4.out
  have HRf : Hid (w9.heap[w.heap.size + 1 + 1]? = some (PB 0 n d r 0 0 g 0)) := hr9
  clear ho9 hs9 hB9 hr9
  obtain ⟨⟨q0, q1, q2, q3, q4, q5, q6, q7⟩, _⟩ := box8_cells HRf.out
  go_wp2
  refine bodyPost_ret (v := .tuple #[PV 0 n d r 0 0 g 0, .bool true]) (by simp only [results, Tryz.results52]; simp [go_sem, q0, q1, q2, q3, q4, q5, q6, q7]) rfl ⟨by rw [HT.out]; rfl, HF.out⟩
theorem takeS_6_1 (n d r l b g k N D V : Int) (hp : Pm.ok ⟨1, n, d, r, l, b, g, k⟩) (ho : OrdR 6 N D V) (w : World) : Calls Tryz.prog 52 #[PV 1 n d r l b g k, .agg #[.int .i64 6, .int .i64 N, .int .i64 D, .int .i64 V]] w fun e w' => e = .returned (.tuple #[(Pm.take ⟨1, n, d, r, l, b, g, k⟩ 6 N D V).1.V, .bool (Pm.take ⟨1, n, d, r, l, b, g, k⟩ 6 N D V).2]) ∧ Below w.heap.size w w' := by
  have HT : Hid (Pm.take ⟨1, n, d, r, l, b, g, k⟩ 6 N D V = (⟨0, n, d, r, 0, 0, g, 0⟩, true)) := by show _ = _; unfold Pm.take; rw [or_yes ho, ok_yes hp]; simp
  have KP := kpS hp
  have KO := koS ho
  clear hp ho
  obtain ⟨HB0, HP0, HO0, HZ0⟩ := t4s w (PB 1 n d r l b g k) (oB 6 N D V) (PB 0 0 0 0 0 0 0 0)
  have p0 := box8_cells HP0.out
  have o0 := box4_cells HO0.out
  go_enter Tryz.func52, Tryz.ntmps52
  go_wp2_with fail
  refine (KP.out _).mono ?_
  rintro e w1 ⟨rfl, hb1⟩
  obtain ⟨HB1, HP1, HO1, HZ1⟩ := t4o HB0 HP0 HO0 HZ0 hb1
  have p1 := box8_cells HP1.out
  have o1 := box4_cells HO1.out
  have z1 := box8_cells HZ1.out
  clear hb1 HB0 HP0 HO0 HZ0 p0 o0
  go_wp2_with fail
  refine (KO.out _).mono ?_
  rintro e w2 ⟨rfl, hb2⟩
  obtain ⟨HB2, HP2, HO2, HZ2⟩ := t4o HB1 HP1 HO1 HZ1 hb2
  have p2 := box8_cells HP2.out
  have o2 := box4_cells HO2.out
  have z2 := box8_cells HZ2.out
  have hl2 := row_lt HZ2.out
  clear hb2 HB1 HP1 HO1 HZ1 p1 o1 z1
  obtain ⟨HN2, HPa, HOa, HZa, HBa⟩ := t4a HB2 HP2 HO2 HZ2 (PB 0 0 0 0 0 0 0 0)
  go_wp2_with (refine listStoreP rfl rfl _ _ _ rfl rfl w2.heap.size (1) (n) (d) (r) (l) (b) (g) (k) rfl rfl HN2.out ?_)
  intro w3 hr3 ho3 hs3 hB3
  have hl3 : w.heap.size ≤ w2.heap.size := by omega
  have HB3 : Hid (Below w.heap.size w w3) := hB3 _ _ hl3 HBa.out
  have HN3 : Hid (w3.heap[w2.heap.size]? = some (PB 1 n d r l b g k)) := hr3
  obtain ⟨HP3, HO3, HZ3⟩ := t4p HPa HOa HZa hl2 ho3
  have p3 := box8_cells HP3.out
  have o3 := box4_cells HO3.out
  have n3 := box8_cells HN3.out
  clear hr3 ho3 hs3 hB3 HN2 HPa HOa HZa HBa HP2 HO2 HZ2 HB2 p2 o2 z2
  go_upto_region 27 with fail
  go_wp2_with (refine listStoreC rfl rfl _ _ _ rfl rfl w2.heap.size 0 (0) rfl rfl HN3.out (by simp) ?_)
  intro w30 hr ho hs hB
  have HB30 : Hid (Below w.heap.size w w30) := hB _ _ hl3 HB3.out
  have HN30 : Hid (w30.heap[w2.heap.size]? = some (PB 0 n d r l b g k)) := hr
  have HP30 : Hid (w30.heap[w.heap.size]? = some (PB 1 n d r l b g k)) := (ho _ (by omega)).trans HP3.out
  have HO30 : Hid (w30.heap[w.heap.size + 1]? = some (oB 6 N D V)) := (ho _ (by omega)).trans HO3.out
  have HZ30 : Hid (w30.heap[w.heap.size + 1 + 1]? = some (PB 0 0 0 0 0 0 0 0)) := (ho _ (by omega)).trans HZ3.out
  have p30 := box8_cells HP30.out
  have o30 := box4_cells HO30.out
  have n30 := box8_cells HN30.out
  clear hr ho hs hB HB3 HN3 HP3 HO3 HZ3 p3 o3 n3
  go_upto_region 28 with fail
  go_wp2_with (refine listStoreC rfl rfl _ _ _ rfl rfl w2.heap.size 4 (0) rfl rfl HN30.out (by simp) ?_)
  intro w31 hr ho hs hB
  have HB31 : Hid (Below w.heap.size w w31) := hB _ _ hl3 HB30.out
  have HN31 : Hid (w31.heap[w2.heap.size]? = some (PB 0 n d r 0 b g k)) := hr
  have HP31 : Hid (w31.heap[w.heap.size]? = some (PB 1 n d r l b g k)) := (ho _ (by omega)).trans HP30.out
  have HO31 : Hid (w31.heap[w.heap.size + 1]? = some (oB 6 N D V)) := (ho _ (by omega)).trans HO30.out
  have HZ31 : Hid (w31.heap[w.heap.size + 1 + 1]? = some (PB 0 0 0 0 0 0 0 0)) := (ho _ (by omega)).trans HZ30.out
  have p31 := box8_cells HP31.out
  have o31 := box4_cells HO31.out
  have n31 := box8_cells HN31.out
  clear hr ho hs hB HB30 HN30 HP30 HO30 HZ30 p30 o30 n30
  go_upto_region 29 with fail
  go_wp2_with (refine listStoreC rfl rfl _ _ _ rfl rfl w2.heap.size 5 (0) rfl rfl HN31.out (by simp) ?_)
  intro w32 hr ho hs hB
  have HB32 : Hid (Below w.heap.size w w32) := hB _ _ hl3 HB31.out
  have HN32 : Hid (w32.heap[w2.heap.size]? = some (PB 0 n d r 0 0 g k)) := hr
  have HP32 : Hid (w32.heap[w.heap.size]? = some (PB 1 n d r l b g k)) := (ho _ (by omega)).trans HP31.out
  have HO32 : Hid (w32.heap[w.heap.size + 1]? = some (oB 6 N D V)) := (ho _ (by omega)).trans HO31.out
  have HZ32 : Hid (w32.heap[w.heap.size + 1 + 1]? = some (PB 0 0 0 0 0 0 0 0)) := (ho _ (by omega)).trans HZ31.out
  have p32 := box8_cells HP32.out
  have o32 := box4_cells HO32.out
  have n32 := box8_cells HN32.out
  clear hr ho hs hB HB31 HN31 HP31 HO31 HZ31 p31 o31 n31
  go_upto_region 30 with fail
  go_wp2_with (refine listStoreC rfl rfl _ _ _ rfl rfl w2.heap.size 7 (0) rfl rfl HN32.out (by simp) ?_)
  intro w33 hr ho hs hB
  have HB33 : Hid (Below w.heap.size w w33) := hB _ _ hl3 HB32.out
  have HN33 : Hid (w33.heap[w2.heap.size]? = some (PB 0 n d r 0 0 g 0)) := hr
  have HP33 : Hid (w33.heap[w.heap.size]? = some (PB 1 n d r l b g k)) := (ho _ (by omega)).trans HP32.out
  have HO33 : Hid (w33.heap[w.heap.size + 1]? = some (oB 6 N D V)) := (ho _ (by omega)).trans HO32.out
  have HZ33 : Hid (w33.heap[w.heap.size + 1 + 1]? = some (PB 0 0 0 0 0 0 0 0)) := (ho _ (by omega)).trans HZ32.out
  have p33 := box8_cells HP33.out
  have o33 := box4_cells HO33.out
  have n33 := box8_cells HN33.out
  clear hr ho hs hB HB32 HN32 HP32 HO32 HZ32 p32 o32 n32
  have HB4 : Hid (Below w.heap.size w w33) := HB33.out
  have HZ4 : Hid (w33.heap[w.heap.size + 1 + 1]? = some (PB 0 0 0 0 0 0 0 0)) := HZ33.out
  go_upto_region 31 with fail
  go_wp2_with (refine listStoreP rfl rfl _ _ _ rfl rfl (w.heap.size + 1 + 1) (0) (n) (d) (r) (0) (0) (g) (0) rfl rfl HZ4.out ?_)
  intro w9 hr9 ho9 hs9 hB9
  have HF : Hid (Below w.heap.size w w9) := hB9 _ _ (le2 _) HB4.out
  have HRf : Hid (w9.heap[w.heap.size + 1 + 1]? = some (PB 0 n d r 0 0 g 0)) := hr9
  clear ho9 hs9 hB9 hr9
  obtain ⟨⟨q0, q1, q2, q3, q4, q5, q6, q7⟩, _⟩ := box8_cells HRf.out
  go_wp2
  refine bodyPost_ret (v := .tuple #[PV 0 n d r 0 0 g 0, .bool true]) (by simp only [results, Tryz.results52]; simp [go_sem, q0, q1, q2, q3, q4, q5, q6, q7]) rfl ⟨by rw [HT.out]; rfl, HF.out⟩
theorem takeS_6_2 (n d r l b g k N D V : Int) (hp : Pm.ok ⟨2, n, d, r, l, b, g, k⟩) (ho : OrdR 6 N D V) (w : World) : Calls Tryz.prog 52 #[PV 2 n d r l b g k, .agg #[.int .i64 6, .int .i64 N, .int .i64 D, .int .i64 V]] w fun e w' => e = .returned (.tuple #[(Pm.take ⟨2, n, d, r, l, b, g, k⟩ 6 N D V).1.V, .bool (Pm.take ⟨2, n, d, r, l, b, g, k⟩ 6 N D V).2]) ∧ Below w.heap.size w w' := by
  have HT : Hid (Pm.take ⟨2, n, d, r, l, b, g, k⟩ 6 N D V = (⟨0, n, d, r, 0, 0, g, 0⟩, true)) := by show _ = _; unfold Pm.take; rw [or_yes ho, ok_yes hp]; simp
  have KP := kpS hp
  have KO := koS ho
  clear hp ho
  obtain ⟨HB0, HP0, HO0, HZ0⟩ := t4s w (PB 2 n d r l b g k) (oB 6 N D V) (PB 0 0 0 0 0 0 0 0)
  have p0 := box8_cells HP0.out
  have o0 := box4_cells HO0.out
  go_enter Tryz.func52, Tryz.ntmps52
  go_wp2_with fail
  refine (KP.out _).mono ?_
  rintro e w1 ⟨rfl, hb1⟩
  obtain ⟨HB1, HP1, HO1, HZ1⟩ := t4o HB0 HP0 HO0 HZ0 hb1
  have p1 := box8_cells HP1.out
  have o1 := box4_cells HO1.out
  have z1 := box8_cells HZ1.out
  clear hb1 HB0 HP0 HO0 HZ0 p0 o0
  go_wp2_with fail
  refine (KO.out _).mono ?_
  rintro e w2 ⟨rfl, hb2⟩
  obtain ⟨HB2, HP2, HO2, HZ2⟩ := t4o HB1 HP1 HO1 HZ1 hb2
  have p2 := box8_cells HP2.out
  have o2 := box4_cells HO2.out
  have z2 := box8_cells HZ2.out
  have hl2 := row_lt HZ2.out
  clear hb2 HB1 HP1 HO1 HZ1 p1 o1 z1
  obtain ⟨HN2, HPa, HOa, HZa, HBa⟩ := t4a HB2 HP2 HO2 HZ2 (PB 0 0 0 0 0 0 0 0)
  go_wp2_with (refine listStoreP rfl rfl _ _ _ rfl rfl w2.heap.size (2) (n) (d) (r) (l) (b) (g) (k) rfl rfl HN2.out ?_)
  intro w3 hr3 ho3 hs3 hB3
  have hl3 : w.heap.size ≤ w2.heap.size := by omega
  have HB3 : Hid (Below w.heap.size w w3) := hB3 _ _ hl3 HBa.out
  have HN3 : Hid (w3.heap[w2.heap.size]? = some (PB 2 n d r l b g k)) := hr3
  obtain ⟨HP3, HO3, HZ3⟩ := t4p HPa HOa HZa hl2 ho3
  have p3 := box8_cells HP3.out
  have o3 := box4_cells HO3.out
  have n3 := box8_cells HN3.out
  clear hr3 ho3 hs3 hB3 HN2 HPa HOa HZa HBa HP2 HO2 HZ2 HB2 p2 o2 z2
  go_upto_region 27 with fail
  go_wp2_with (refine listStoreC rfl rfl _ _ _ rfl rfl w2.heap.size 0 (0) rfl rfl HN3.out (by simp) ?_)
  intro w30 hr ho hs hB
  have HB30 : Hid (Below w.heap.size w w30) := hB _ _ hl3 HB3.out
  have HN30 : Hid (w30.heap[w2.heap.size]? = some (PB 0 n d r l b g k)) := hr
  have HP30 : Hid (w30.heap[w.heap.size]? = some (PB 2 n d r l b g k)) := (ho _ (by omega)).trans HP3.out
  have HO30 : Hid (w30.heap[w.heap.size + 1]? = some (oB 6 N D V)) := (ho _ (by omega)).trans HO3.out
  have HZ30 : Hid (w30.heap[w.heap.size + 1 + 1]? = some (PB 0 0 0 0 0 0 0 0)) := (ho _ (by omega)).trans HZ3.out
  have p30 := box8_cells HP30.out
  have o30 := box4_cells HO30.out
  have n30 := box8_cells HN30.out
  clear hr ho hs hB HB3 HN3 HP3 HO3 HZ3 p3 o3 n3
  go_upto_region 28 with fail
  go_wp2_with (refine listStoreC rfl rfl _ _ _ rfl rfl w2.heap.size 4 (0) rfl rfl HN30.out (by simp) ?_)
  intro w31 hr ho hs hB
  have HB31 : Hid (Below w.heap.size w w31) := hB _ _ hl3 HB30.out
  have HN31 : Hid (w31.heap[w2.heap.size]? = some (PB 0 n d r 0 b g k)) := hr
  have HP31 : Hid (w31.heap[w.heap.size]? = some (PB 2 n d r l b g k)) := (ho _ (by omega)).trans HP30.out
  have HO31 : Hid (w31.heap[w.heap.size + 1]? = some (oB 6 N D V)) := (ho _ (by omega)).trans HO30.out
  have HZ31 : Hid (w31.heap[w.heap.size + 1 + 1]? = some (PB 0 0 0 0 0 0 0 0)) := (ho _ (by omega)).trans HZ30.out
  have p31 := box8_cells HP31.out
  have o31 := box4_cells HO31.out
  have n31 := box8_cells HN31.out
  clear hr ho hs hB HB30 HN30 HP30 HO30 HZ30 p30 o30 n30
  go_upto_region 29 with fail
  go_wp2_with (refine listStoreC rfl rfl _ _ _ rfl rfl w2.heap.size 5 (0) rfl rfl HN31.out (by simp) ?_)
  intro w32 hr ho hs hB
  have HB32 : Hid (Below w.heap.size w w32) := hB _ _ hl3 HB31.out
  have HN32 : Hid (w32.heap[w2.heap.size]? = some (PB 0 n d r 0 0 g k)) := hr
  have HP32 : Hid (w32.heap[w.heap.size]? = some (PB 2 n d r l b g k)) := (ho _ (by omega)).trans HP31.out
  have HO32 : Hid (w32.heap[w.heap.size + 1]? = some (oB 6 N D V)) := (ho _ (by omega)).trans HO31.out
  have HZ32 : Hid (w32.heap[w.heap.size + 1 + 1]? = some (PB 0 0 0 0 0 0 0 0)) := (ho _ (by omega)).trans HZ31.out
  have p32 := box8_cells HP32.out
  have o32 := box4_cells HO32.out
  have n32 := box8_cells HN32.out
  clear hr ho hs hB HB31 HN31 HP31 HO31 HZ31 p31 o31 n31
  go_upto_region 30 with fail
  go_wp2_with (refine listStoreC rfl rfl _ _ _ rfl rfl w2.heap.size 7 (0) rfl rfl HN32.out (by simp) ?_)
  intro w33 hr ho hs hB
  have HB33 : Hid (Below w.heap.size w w33) := hB _ _ hl3 HB32.out
  have HN33 : Hid (w33.heap[w2.heap.size]? = some (PB 0 n d r 0 0 g 0)) := hr
  have HP33 : Hid (w33.heap[w.heap.size]? = some (PB 2 n d r l b g k)) := (ho _ (by omega)).trans HP32.out
  have HO33 : Hid (w33.heap[w.heap.size + 1]? = some (oB 6 N D V)) := (ho _ (by omega)).trans HO32.out
  have HZ33 : Hid (w33.heap[w.heap.size + 1 + 1]? = some (PB 0 0 0 0 0 0 0 0)) := (ho _ (by omega)).trans HZ32.out
  have p33 := box8_cells HP33.out
  have o33 := box4_cells HO33.out
  have n33 := box8_cells HN33.out
  clear hr ho hs hB HB32 HN32 HP32 HO32 HZ32 p32 o32 n32
  have HB4 : Hid (Below w.heap.size w w33) := HB33.out
  have HZ4 : Hid (w33.heap[w.heap.size + 1 + 1]? = some (PB 0 0 0 0 0 0 0 0)) := HZ33.out
  go_upto_region 31 with fail
  go_wp2_with (refine listStoreP rfl rfl _ _ _ rfl rfl (w.heap.size + 1 + 1) (0) (n) (d) (r) (0) (0) (g) (0) rfl rfl HZ4.out ?_)
  intro w9 hr9 ho9 hs9 hB9
  have HF : Hid (Below w.heap.size w w9) := hB9 _ _ (le2 _) HB4.out
  have HRf : Hid (w9.heap[w.heap.size + 1 + 1]? = some (PB 0 n d r 0 0 g 0)) := hr9
  clear ho9 hs9 hB9 hr9
  obtain ⟨⟨q0, q1, q2, q3, q4, q5, q6, q7⟩, _⟩ := box8_cells HRf.out
  go_wp2
  refine bodyPost_ret (v := .tuple #[PV 0 n d r 0 0 g 0, .bool true]) (by simp only [results, Tryz.results52]; simp [go_sem, q0, q1, q2, q3, q4, q5, q6, q7]) rfl ⟨by rw [HT.out]; rfl, HF.out⟩
theorem takeS_6_3 (n d r l b g k N D V : Int) (hp : Pm.ok ⟨3, n, d, r, l, b, g, k⟩) (ho : OrdR 6 N D V) (w : World) : Calls Tryz.prog 52 #[PV 3 n d r l b g k, .agg #[.int .i64 6, .int .i64 N, .int .i64 D, .int .i64 V]] w fun e w' => e = .returned (.tuple #[(Pm.take ⟨3, n, d, r, l, b, g, k⟩ 6 N D V).1.V, .bool (Pm.take ⟨3, n, d, r, l, b, g, k⟩ 6 N D V).2]) ∧ Below w.heap.size w w' := by
  have HT : Hid (Pm.take ⟨3, n, d, r, l, b, g, k⟩ 6 N D V = (⟨0, n, d, r, 0, 0, g, 0⟩, true)) := by show _ = _; unfold Pm.take; rw [or_yes ho, ok_yes hp]; simp
  have KP := kpS hp
  have KO := koS ho
  clear hp ho
  obtain ⟨HB0, HP0, HO0, HZ0⟩ := t4s w (PB 3 n d r l b g k) (oB 6 N D V) (PB 0 0 0 0 0 0 0 0)
  have p0 := box8_cells HP0.out
  have o0 := box4_cells HO0.out
  go_enter Tryz.func52, Tryz.ntmps52
  go_wp2_with fail
  refine (KP.out _).mono ?_
  rintro e w1 ⟨rfl, hb1⟩
  obtain ⟨HB1, HP1, HO1, HZ1⟩ := t4o HB0 HP0 HO0 HZ0 hb1
  have p1 := box8_cells HP1.out
  have o1 := box4_cells HO1.out
  have z1 := box8_cells HZ1.out
  clear hb1 HB0 HP0 HO0 HZ0 p0 o0
  go_wp2_with fail
  refine (KO.out _).mono ?_
  rintro e w2 ⟨rfl, hb2⟩
  obtain ⟨HB2, HP2, HO2, HZ2⟩ := t4o HB1 HP1 HO1 HZ1 hb2
  have p2 := box8_cells HP2.out
  have o2 := box4_cells HO2.out
  have z2 := box8_cells HZ2.out
  have hl2 := row_lt HZ2.out
  clear hb2 HB1 HP1 HO1 HZ1 p1 o1 z1
  obtain ⟨HN2, HPa, HOa, HZa, HBa⟩ := t4a HB2 HP2 HO2 HZ2 (PB 0 0 0 0 0 0 0 0)
  go_wp2_with (refine listStoreP rfl rfl _ _ _ rfl rfl w2.heap.size (3) (n) (d) (r) (l) (b) (g) (k) rfl rfl HN2.out ?_)
  intro w3 hr3 ho3 hs3 hB3
  have hl3 : w.heap.size ≤ w2.heap.size := by omega
  have HB3 : Hid (Below w.heap.size w w3) := hB3 _ _ hl3 HBa.out
  have HN3 : Hid (w3.heap[w2.heap.size]? = some (PB 3 n d r l b g k)) := hr3
  obtain ⟨HP3, HO3, HZ3⟩ := t4p HPa HOa HZa hl2 ho3
  have p3 := box8_cells HP3.out
  have o3 := box4_cells HO3.out
  have n3 := box8_cells HN3.out
  clear hr3 ho3 hs3 hB3 HN2 HPa HOa HZa HBa HP2 HO2 HZ2 HB2 p2 o2 z2
  go_upto_region 27 with fail
  go_wp2_with (refine listStoreC rfl rfl _ _ _ rfl rfl w2.heap.size 0 (0) rfl rfl HN3.out (by simp) ?_)
  intro w30 hr ho hs hB
  have HB30 : Hid (Below w.heap.size w w30) := hB _ _ hl3 HB3.out
  have HN30 : Hid (w30.heap[w2.heap.size]? = some (PB 0 n d r l b g k)) := hr
  have HP30 : Hid (w30.heap[w.heap.size]? = some (PB 3 n d r l b g k)) := (ho _ (by omega)).trans HP3.out
  have HO30 : Hid (w30.heap[w.heap.size + 1]? = some (oB 6 N D V)) := (ho _ (by omega)).trans HO3.out
  have HZ30 : Hid (w30.heap[w.heap.size + 1 + 1]? = some (PB 0 0 0 0 0 0 0 0)) := (ho _ (by omega)).trans HZ3.out
  have p30 := box8_cells HP30.out
  have o30 := box4_cells HO30.out
  have n30 := box8_cells HN30.out
  clear hr ho hs hB HB3 HN3 HP3 HO3 HZ3 p3 o3 n3
  go_upto_region 28 with fail
  go_wp2_with (refine listStoreC rfl rfl _ _ _ rfl rfl w2.heap.size 4 (0) rfl rfl HN30.out (by simp) ?_)
  intro w31 hr ho hs hB
  have HB31 : Hid (Below w.heap.size w w31) := hB _ _ hl3 HB30.out
  have HN31 : Hid (w31.heap[w2.heap.size]? = some (PB 0 n d r 0 b g k)) := hr
  have HP31 : Hid (w31.heap[w.heap.size]? = some (PB 3 n d r l b g k)) := (ho _ (by omega)).trans HP30.out
  have HO31 : Hid (w31.heap[w.heap.size + 1]? = some (oB 6 N D V)) := (ho _ (by omega)).trans HO30.out
  have HZ31 : Hid (w31.heap[w.heap.size + 1 + 1]? = some (PB 0 0 0 0 0 0 0 0)) := (ho _ (by omega)).trans HZ30.out
  have p31 := box8_cells HP31.out
  have o31 := box4_cells HO31.out
  have n31 := box8_cells HN31.out
  clear hr ho hs hB HB30 HN30 HP30 HO30 HZ30 p30 o30 n30
  go_upto_region 29 with fail
  go_wp2_with (refine listStoreC rfl rfl _ _ _ rfl rfl w2.heap.size 5 (0) rfl rfl HN31.out (by simp) ?_)
  intro w32 hr ho hs hB
  have HB32 : Hid (Below w.heap.size w w32) := hB _ _ hl3 HB31.out
  have HN32 : Hid (w32.heap[w2.heap.size]? = some (PB 0 n d r 0 0 g k)) := hr
  have HP32 : Hid (w32.heap[w.heap.size]? = some (PB 3 n d r l b g k)) := (ho _ (by omega)).trans HP31.out
  have HO32 : Hid (w32.heap[w.heap.size + 1]? = some (oB 6 N D V)) := (ho _ (by omega)).trans HO31.out
  have HZ32 : Hid (w32.heap[w.heap.size + 1 + 1]? = some (PB 0 0 0 0 0 0 0 0)) := (ho _ (by omega)).trans HZ31.out
  have p32 := box8_cells HP32.out
  have o32 := box4_cells HO32.out
  have n32 := box8_cells HN32.out
  clear hr ho hs hB HB31 HN31 HP31 HO31 HZ31 p31 o31 n31
  go_upto_region 30 with fail
  go_wp2_with (refine listStoreC rfl rfl _ _ _ rfl rfl w2.heap.size 7 (0) rfl rfl HN32.out (by simp) ?_)
  intro w33 hr ho hs hB
  have HB33 : Hid (Below w.heap.size w w33) := hB _ _ hl3 HB32.out
  have HN33 : Hid (w33.heap[w2.heap.size]? = some (PB 0 n d r 0 0 g 0)) := hr
  have HP33 : Hid (w33.heap[w.heap.size]? = some (PB 3 n d r l b g k)) := (ho _ (by omega)).trans HP32.out
  have HO33 : Hid (w33.heap[w.heap.size + 1]? = some (oB 6 N D V)) := (ho _ (by omega)).trans HO32.out
  have HZ33 : Hid (w33.heap[w.heap.size + 1 + 1]? = some (PB 0 0 0 0 0 0 0 0)) := (ho _ (by omega)).trans HZ32.out
  have p33 := box8_cells HP33.out
  have o33 := box4_cells HO33.out
  have n33 := box8_cells HN33.out
  clear hr ho hs hB HB32 HN32 HP32 HO32 HZ32 p32 o32 n32
  have HB4 : Hid (Below w.heap.size w w33) := HB33.out
  have HZ4 : Hid (w33.heap[w.heap.size + 1 + 1]? = some (PB 0 0 0 0 0 0 0 0)) := HZ33.out
  go_upto_region 31 with fail
  go_wp2_with (refine listStoreP rfl rfl _ _ _ rfl rfl (w.heap.size + 1 + 1) (0) (n) (d) (r) (0) (0) (g) (0) rfl rfl HZ4.out ?_)
  intro w9 hr9 ho9 hs9 hB9
  have HF : Hid (Below w.heap.size w w9) := hB9 _ _ (le2 _) HB4.out
  have HRf : Hid (w9.heap[w.heap.size + 1 + 1]? = some (PB 0 n d r 0 0 g 0)) := hr9
  clear ho9 hs9 hB9 hr9
  obtain ⟨⟨q0, q1, q2, q3, q4, q5, q6, q7⟩, _⟩ := box8_cells HRf.out
  go_wp2
  refine bodyPost_ret (v := .tuple #[PV 0 n d r 0 0 g 0, .bool true]) (by simp only [results, Tryz.results52]; simp [go_sem, q0, q1, q2, q3, q4, q5, q6, q7]) rfl ⟨by rw [HT.out]; rfl, HF.out⟩
theorem takeS (p : Pm) (K N D V : Int) (w : World) : Calls Tryz.prog 52 #[p.V, ordV K N D V] w fun e w' => e = .returned (.tuple #[(p.take K N D V).1.V, .bool (p.take K N D V).2]) ∧ Below w.heap.size w w' := by
  obtain ⟨s, n, d, r, l, b, g, k⟩ := p
  by_cases hp : Pm.ok ⟨s, n, d, r, l, b, g, k⟩
  · by_cases ho : OrdR K N D V
    · have hs : s = 0 ∨ s = 1 ∨ s = 2 ∨ s = 3 := by have := hp.1; dsimp only at this; omega
      have hb : 0 ≤ b := hp.2.2.2.2.2.1.1
      have hk : K = 1 ∨ K = 2 ∨ K = 3 ∨ K = 4 ∨ K = 5 ∨ K = 6 := by have := ho.bd; omega
      rcases hk with rfl | rfl | rfl | rfl | rfl | rfl
      · rcases hs with rfl | rfl | rfl | rfl
        · exact takeS_1_0 n d r l b g k N D V hp ho w
        · exact takeS_1_1 n d r l b g k N D V hp ho w
        · exact takeS_1_2 n d r l b g k N D V hp ho w
        · exact takeS_1_3 n d r l b g k N D V hp ho w
      · rcases hs with rfl | rfl | rfl | rfl
        · exact takeS_2_0 n d r l b g k N D V hp ho w
        · by_cases hb0 : 0 < b
          · exact takeS_2_1b1 n d r l b g k N D V hp ho hb0 w
          · obtain rfl : b = 0 := by omega
            exact takeS_2_1b0 n d r l g k N D V hp ho w
        · by_cases hb0 : 0 < b
          · exact takeS_2_2b1 n d r l b g k N D V hp ho hb0 w
          · obtain rfl : b = 0 := by omega
            exact takeS_2_2b0 n d r l g k N D V hp ho w
        · exact takeS_2_3 n d r l b g k N D V hp ho w
      · rcases hs with rfl | rfl | rfl | rfl
        · exact takeS_3_0 n d r l b g k N D V hp ho w
        · exact takeS_3_1 n d r l b g k N D V hp ho w
        · exact takeS_3_2 n d r l b g k N D V hp ho w
        · exact takeS_3_3 n d r l b g k N D V hp ho w
      · rcases hs with rfl | rfl | rfl | rfl
        · exact takeS_4_0 n d r l b g k N D V hp ho w
        · exact takeS_4_1 n d r l b g k N D V hp ho w
        · exact takeS_4_2 n d r l b g k N D V hp ho w
        · exact takeS_4_3 n d r l b g k N D V hp ho w
      · rcases hs with rfl | rfl | rfl | rfl
        · exact takeS_5_0 n d r l b g k N D V hp ho w
        · exact takeS_5_1 n d r l b g k N D V hp ho w
        · exact takeS_5_2 n d r l b g k N D V hp ho w
        · exact takeS_5_3 n d r l b g k N D V hp ho w
      · rcases hs with rfl | rfl | rfl | rfl
        · exact takeS_6_0 n d r l b g k N D V hp ho w
        · exact takeS_6_1 n d r l b g k N D V hp ho w
        · exact takeS_6_2 n d r l b g k N D V hp ho w
        · exact takeS_6_3 n d r l b g k N D V hp ho w
    · exact takeS_o s n d r l b g k K N D V hp ho w
  · exact takeS_p s n d r l b g k K N D V hp w
end Go.Proofs.YtfhhnelffldggaaGreatDoor
