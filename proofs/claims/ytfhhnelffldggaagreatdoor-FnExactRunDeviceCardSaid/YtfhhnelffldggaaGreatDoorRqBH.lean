/-
  Take of the specification, some of its ways.
-/
import Derived.Test.YtfhhnelffldggaaGreatDoorRqAG
set_option maxRecDepth 100000
set_option maxHeartbeats 16000000
namespace Go.Proofs.YtfhhnelffldggaaGreatDoor
open Go.RowKit Go.PlainAid
set_option linter.unusedVariables false
set_option linter.unusedSimpArgs false
theorem takeS_3_0 (n d r l b g k N D V : Int) (hp : Pm.ok ⟨0, n, d, r, l, b, g, k⟩) (ho : OrdR 3 N D V) (w : World) : Calls Tryz.prog 52 #[PV 0 n d r l b g k, .agg #[.int .i64 3, .int .i64 N, .int .i64 D, .int .i64 V]] w fun e w' => e = .returned (.tuple #[(Pm.take ⟨0, n, d, r, l, b, g, k⟩ 3 N D V).1.V, .bool (Pm.take ⟨0, n, d, r, l, b, g, k⟩ 3 N D V).2]) ∧ Below w.heap.size w w' := by
  have HT : Hid (Pm.take ⟨0, n, d, r, l, b, g, k⟩ 3 N D V = (⟨0, n, d, r, l, b, g, k⟩, false)) := by show _ = _; unfold Pm.take; rw [or_yes ho, ok_yes hp]; simp
  have KP : Hid (∀ w, Calls Tryz.prog 94 #[PV 0 n d r l b g k] w fun e w' => e = .returned (.bool true) ∧ Below w.heap.size w w') := fun w => pumpokS ⟨0, n, d, r, l, b, g, k⟩ true ⟨fun _ => hp, fun _ => rfl⟩ w
  have KO : Hid (∀ w, Calls Tryz.prog 106 #[.agg #[.int .i64 3, .int .i64 N, .int .i64 D, .int .i64 V]] w fun e w' => e = .returned (.bool true) ∧ Below w.heap.size w w') := fun w => ordokS 3 N D V true ⟨fun _ => ho, fun _ => rfl⟩ w
  clear hp ho
  have HB0 : Hid (Below w.heap.size w (((w.alloc (PB 0 n d r l b g k)).alloc (oB 3 N D V)).alloc (PB 0 0 0 0 0 0 0 0))) := bel_on (Nat.le_refl _) (bel_on (Nat.le_refl _) (alP _ _) (alP _ _)) (alP _ _)
  have HP0 : Hid ((((w.alloc (PB 0 n d r l b g k)).alloc (oB 3 N D V)).alloc (PB 0 0 0 0 0 0 0 0)).heap[w.heap.size]? = some (PB 0 n d r l b g k)) := row_on (row_on (heap_new w _) (alP _ _)) (alP _ _)
  have HO0 : Hid ((((w.alloc (PB 0 n d r l b g k)).alloc (oB 3 N D V)).alloc (PB 0 0 0 0 0 0 0 0)).heap[w.heap.size + 1]? = some (oB 3 N D V)) := row_on (al_at (w.alloc (PB 0 n d r l b g k)) _ (by simp)) (alP _ _)
  have HZ0 : Hid ((((w.alloc (PB 0 n d r l b g k)).alloc (oB 3 N D V)).alloc (PB 0 0 0 0 0 0 0 0)).heap[w.heap.size + 1 + 1]? = some (PB 0 0 0 0 0 0 0 0)) := al_at ((w.alloc (PB 0 n d r l b g k)).alloc (oB 3 N D V)) _ (by simp)
  have p0 := box8_cells HP0.out
  have o0 := box4_cells HO0.out
  go_enter Tryz.func52, Tryz.ntmps52
  go_wp2_with fail
  refine (KP.out _).mono ?_
  rintro e w1 ⟨rfl, hb1⟩
  have HB1 := bq HB0 hb1
  have HP1 : Hid (w1.heap[w.heap.size]? = some (PB 0 n d r l b g k)) := row_on HP0.out hb1
  have HO1 : Hid (w1.heap[w.heap.size + 1]? = some (oB 3 N D V)) := row_on HO0.out hb1
  have HZ1 : Hid (w1.heap[w.heap.size + 1 + 1]? = some (PB 0 0 0 0 0 0 0 0)) := row_on HZ0.out hb1
  have p1 := box8_cells HP1.out
  have o1 := box4_cells HO1.out
  have z1 := box8_cells HZ1.out
  clear hb1 HB0 HP0 HO0 HZ0 p0 o0
  go_wp2_with fail
  refine (KO.out _).mono ?_
  rintro e w2 ⟨rfl, hb2⟩
  have HB2 := bq HB1 hb2
  have HP2 : Hid (w2.heap[w.heap.size]? = some (PB 0 n d r l b g k)) := row_on HP1.out hb2
  have HO2 : Hid (w2.heap[w.heap.size + 1]? = some (oB 3 N D V)) := row_on HO1.out hb2
  have HZ2 : Hid (w2.heap[w.heap.size + 1 + 1]? = some (PB 0 0 0 0 0 0 0 0)) := row_on HZ1.out hb2
  have p2 := box8_cells HP2.out
  have o2 := box4_cells HO2.out
  have z2 := box8_cells HZ2.out
  have hl2 := row_lt HZ2.out
  clear hb2 HB1 HP1 HO1 HZ1 p1 o1 z1
  have HN2 : Hid ((w2.alloc (PB 0 0 0 0 0 0 0 0)).heap[w2.heap.size]? = some (PB 0 0 0 0 0 0 0 0)) := heap_new w2 _
  have HPa : Hid ((w2.alloc (PB 0 0 0 0 0 0 0 0)).heap[w.heap.size]? = some (PB 0 n d r l b g k)) := row_on HP2.out (alP _ _)
  have HOa : Hid ((w2.alloc (PB 0 0 0 0 0 0 0 0)).heap[w.heap.size + 1]? = some (oB 3 N D V)) := row_on HO2.out (alP _ _)
  have HZa : Hid ((w2.alloc (PB 0 0 0 0 0 0 0 0)).heap[w.heap.size + 1 + 1]? = some (PB 0 0 0 0 0 0 0 0)) := row_on HZ2.out (alP _ _)
  have HBa : Hid (Below w.heap.size w (w2.alloc (PB 0 0 0 0 0 0 0 0))) := bel_on (Nat.le_refl _) HB2.out (alP _ _)
  go_wp2_with (refine listStoreP rfl rfl _ _ _ rfl rfl w2.heap.size (0) (n) (d) (r) (l) (b) (g) (k) rfl rfl HN2.out ?_)
  intro w3 hr3 ho3 hs3 hB3
  have hl3 : w.heap.size ≤ w2.heap.size := by omega
  have HB3 : Hid (Below w.heap.size w w3) := hB3 _ _ hl3 HBa.out
  have HN3 : Hid (w3.heap[w2.heap.size]? = some (PB 0 n d r l b g k)) := hr3
  have HP3 : Hid (w3.heap[w.heap.size]? = some (PB 0 n d r l b g k)) := (ho3 _ (by omega)).trans HPa.out
  have HO3 : Hid (w3.heap[w.heap.size + 1]? = some (oB 3 N D V)) := (ho3 _ (by omega)).trans HOa.out
  have HZ3 : Hid (w3.heap[w.heap.size + 1 + 1]? = some (PB 0 0 0 0 0 0 0 0)) := (ho3 _ (by omega)).trans HZa.out
  have p3 := box8_cells HP3.out
  have o3 := box4_cells HO3.out
  have n3 := box8_cells HN3.out
  clear hr3 ho3 hs3 hB3 HN2 HPa HOa HZa HBa HP2 HO2 HZ2 HB2 p2 o2 z2
  have HB4 : Hid (Below w.heap.size w w3) := HB3.out
  have HZ4 : Hid (w3.heap[w.heap.size + 1 + 1]? = some (PB 0 0 0 0 0 0 0 0)) := HZ3.out
  go_upto_region 18 with fail
  go_wp2_with (refine listStoreP rfl rfl _ _ _ rfl rfl (w.heap.size + 1 + 1) (0) (n) (d) (r) (l) (b) (g) (k) rfl rfl HZ4.out ?_)
  intro w9 hr9 ho9 hs9 hB9
  have HF : Hid (Below w.heap.size w w9) := hB9 _ _ (le2 _) HB4.out
  have HRf : Hid (w9.heap[w.heap.size + 1 + 1]? = some (PB 0 n d r l b g k)) := hr9
  clear ho9 hs9 hB9 hr9
  obtain ⟨⟨q0, q1, q2, q3, q4, q5, q6, q7⟩, _⟩ := box8_cells HRf.out
  go_wp2
  refine bodyPost_ret (v := .tuple #[PV 0 n d r l b g k, .bool false]) (by simp only [results, Tryz.results52]; simp [go_sem, q0, q1, q2, q3, q4, q5, q6, q7]) rfl ⟨by rw [HT.out]; rfl, HF.out⟩
theorem takeS_3_1 (n d r l b g k N D V : Int) (hp : Pm.ok ⟨1, n, d, r, l, b, g, k⟩) (ho : OrdR 3 N D V) (w : World) : Calls Tryz.prog 52 #[PV 1 n d r l b g k, .agg #[.int .i64 3, .int .i64 N, .int .i64 D, .int .i64 V]] w fun e w' => e = .returned (.tuple #[(Pm.take ⟨1, n, d, r, l, b, g, k⟩ 3 N D V).1.V, .bool (Pm.take ⟨1, n, d, r, l, b, g, k⟩ 3 N D V).2]) ∧ Below w.heap.size w w' := by
  have HT : Hid (Pm.take ⟨1, n, d, r, l, b, g, k⟩ 3 N D V = (⟨3, n, d, r, l, b, g, 1⟩, true)) := by show _ = _; unfold Pm.take; rw [or_yes ho, ok_yes hp]; simp
  have KP : Hid (∀ w, Calls Tryz.prog 94 #[PV 1 n d r l b g k] w fun e w' => e = .returned (.bool true) ∧ Below w.heap.size w w') := fun w => pumpokS ⟨1, n, d, r, l, b, g, k⟩ true ⟨fun _ => hp, fun _ => rfl⟩ w
  have KO : Hid (∀ w, Calls Tryz.prog 106 #[.agg #[.int .i64 3, .int .i64 N, .int .i64 D, .int .i64 V]] w fun e w' => e = .returned (.bool true) ∧ Below w.heap.size w w') := fun w => ordokS 3 N D V true ⟨fun _ => ho, fun _ => rfl⟩ w
  clear hp ho
  have HB0 : Hid (Below w.heap.size w (((w.alloc (PB 1 n d r l b g k)).alloc (oB 3 N D V)).alloc (PB 0 0 0 0 0 0 0 0))) := bel_on (Nat.le_refl _) (bel_on (Nat.le_refl _) (alP _ _) (alP _ _)) (alP _ _)
  have HP0 : Hid ((((w.alloc (PB 1 n d r l b g k)).alloc (oB 3 N D V)).alloc (PB 0 0 0 0 0 0 0 0)).heap[w.heap.size]? = some (PB 1 n d r l b g k)) := row_on (row_on (heap_new w _) (alP _ _)) (alP _ _)
  have HO0 : Hid ((((w.alloc (PB 1 n d r l b g k)).alloc (oB 3 N D V)).alloc (PB 0 0 0 0 0 0 0 0)).heap[w.heap.size + 1]? = some (oB 3 N D V)) := row_on (al_at (w.alloc (PB 1 n d r l b g k)) _ (by simp)) (alP _ _)
  have HZ0 : Hid ((((w.alloc (PB 1 n d r l b g k)).alloc (oB 3 N D V)).alloc (PB 0 0 0 0 0 0 0 0)).heap[w.heap.size + 1 + 1]? = some (PB 0 0 0 0 0 0 0 0)) := al_at ((w.alloc (PB 1 n d r l b g k)).alloc (oB 3 N D V)) _ (by simp)
  have p0 := box8_cells HP0.out
  have o0 := box4_cells HO0.out
  go_enter Tryz.func52, Tryz.ntmps52
  go_wp2_with fail
  refine (KP.out _).mono ?_
  rintro e w1 ⟨rfl, hb1⟩
  have HB1 := bq HB0 hb1
  have HP1 : Hid (w1.heap[w.heap.size]? = some (PB 1 n d r l b g k)) := row_on HP0.out hb1
  have HO1 : Hid (w1.heap[w.heap.size + 1]? = some (oB 3 N D V)) := row_on HO0.out hb1
  have HZ1 : Hid (w1.heap[w.heap.size + 1 + 1]? = some (PB 0 0 0 0 0 0 0 0)) := row_on HZ0.out hb1
  have p1 := box8_cells HP1.out
  have o1 := box4_cells HO1.out
  have z1 := box8_cells HZ1.out
  clear hb1 HB0 HP0 HO0 HZ0 p0 o0
  go_wp2_with fail
  refine (KO.out _).mono ?_
  rintro e w2 ⟨rfl, hb2⟩
  have HB2 := bq HB1 hb2
  have HP2 : Hid (w2.heap[w.heap.size]? = some (PB 1 n d r l b g k)) := row_on HP1.out hb2
  have HO2 : Hid (w2.heap[w.heap.size + 1]? = some (oB 3 N D V)) := row_on HO1.out hb2
  have HZ2 : Hid (w2.heap[w.heap.size + 1 + 1]? = some (PB 0 0 0 0 0 0 0 0)) := row_on HZ1.out hb2
  have p2 := box8_cells HP2.out
  have o2 := box4_cells HO2.out
  have z2 := box8_cells HZ2.out
  have hl2 := row_lt HZ2.out
  clear hb2 HB1 HP1 HO1 HZ1 p1 o1 z1
  have HN2 : Hid ((w2.alloc (PB 0 0 0 0 0 0 0 0)).heap[w2.heap.size]? = some (PB 0 0 0 0 0 0 0 0)) := heap_new w2 _
  have HPa : Hid ((w2.alloc (PB 0 0 0 0 0 0 0 0)).heap[w.heap.size]? = some (PB 1 n d r l b g k)) := row_on HP2.out (alP _ _)
  have HOa : Hid ((w2.alloc (PB 0 0 0 0 0 0 0 0)).heap[w.heap.size + 1]? = some (oB 3 N D V)) := row_on HO2.out (alP _ _)
  have HZa : Hid ((w2.alloc (PB 0 0 0 0 0 0 0 0)).heap[w.heap.size + 1 + 1]? = some (PB 0 0 0 0 0 0 0 0)) := row_on HZ2.out (alP _ _)
  have HBa : Hid (Below w.heap.size w (w2.alloc (PB 0 0 0 0 0 0 0 0))) := bel_on (Nat.le_refl _) HB2.out (alP _ _)
  go_wp2_with (refine listStoreP rfl rfl _ _ _ rfl rfl w2.heap.size (1) (n) (d) (r) (l) (b) (g) (k) rfl rfl HN2.out ?_)
  intro w3 hr3 ho3 hs3 hB3
  have hl3 : w.heap.size ≤ w2.heap.size := by omega
  have HB3 : Hid (Below w.heap.size w w3) := hB3 _ _ hl3 HBa.out
  have HN3 : Hid (w3.heap[w2.heap.size]? = some (PB 1 n d r l b g k)) := hr3
  have HP3 : Hid (w3.heap[w.heap.size]? = some (PB 1 n d r l b g k)) := (ho3 _ (by omega)).trans HPa.out
  have HO3 : Hid (w3.heap[w.heap.size + 1]? = some (oB 3 N D V)) := (ho3 _ (by omega)).trans HOa.out
  have HZ3 : Hid (w3.heap[w.heap.size + 1 + 1]? = some (PB 0 0 0 0 0 0 0 0)) := (ho3 _ (by omega)).trans HZa.out
  have p3 := box8_cells HP3.out
  have o3 := box4_cells HO3.out
  have n3 := box8_cells HN3.out
  clear hr3 ho3 hs3 hB3 HN2 HPa HOa HZa HBa HP2 HO2 HZ2 HB2 p2 o2 z2
  go_upto_region 19 with fail
  go_wp2_with (refine listStoreC rfl rfl _ _ _ rfl rfl w2.heap.size 0 (3) rfl rfl HN3.out (by simp) ?_)
  intro w30 hr ho hs hB
  have HB30 : Hid (Below w.heap.size w w30) := hB _ _ hl3 HB3.out
  have HN30 : Hid (w30.heap[w2.heap.size]? = some (PB 3 n d r l b g k)) := hr
  have HP30 : Hid (w30.heap[w.heap.size]? = some (PB 1 n d r l b g k)) := (ho _ (by omega)).trans HP3.out
  have HO30 : Hid (w30.heap[w.heap.size + 1]? = some (oB 3 N D V)) := (ho _ (by omega)).trans HO3.out
  have HZ30 : Hid (w30.heap[w.heap.size + 1 + 1]? = some (PB 0 0 0 0 0 0 0 0)) := (ho _ (by omega)).trans HZ3.out
  have p30 := box8_cells HP30.out
  have o30 := box4_cells HO30.out
  have n30 := box8_cells HN30.out
  clear hr ho hs hB HB3 HN3 HP3 HO3 HZ3 p3 o3 n3
  go_upto_region 20 with fail
  go_wp2_with (refine listStoreC rfl rfl _ _ _ rfl rfl w2.heap.size 7 (1) rfl rfl HN30.out (by simp) ?_)
  intro w31 hr ho hs hB
  have HB31 : Hid (Below w.heap.size w w31) := hB _ _ hl3 HB30.out
  have HN31 : Hid (w31.heap[w2.heap.size]? = some (PB 3 n d r l b g 1)) := hr
  have HP31 : Hid (w31.heap[w.heap.size]? = some (PB 1 n d r l b g k)) := (ho _ (by omega)).trans HP30.out
  have HO31 : Hid (w31.heap[w.heap.size + 1]? = some (oB 3 N D V)) := (ho _ (by omega)).trans HO30.out
  have HZ31 : Hid (w31.heap[w.heap.size + 1 + 1]? = some (PB 0 0 0 0 0 0 0 0)) := (ho _ (by omega)).trans HZ30.out
  have p31 := box8_cells HP31.out
  have o31 := box4_cells HO31.out
  have n31 := box8_cells HN31.out
  clear hr ho hs hB HB30 HN30 HP30 HO30 HZ30 p30 o30 n30
  have HB4 : Hid (Below w.heap.size w w31) := HB31.out
  have HZ4 : Hid (w31.heap[w.heap.size + 1 + 1]? = some (PB 0 0 0 0 0 0 0 0)) := HZ31.out
  go_upto_region 31 with fail
  go_wp2_with (refine listStoreP rfl rfl _ _ _ rfl rfl (w.heap.size + 1 + 1) (3) (n) (d) (r) (l) (b) (g) (1) rfl rfl HZ4.out ?_)
  intro w9 hr9 ho9 hs9 hB9
  have HF : Hid (Below w.heap.size w w9) := hB9 _ _ (le2 _) HB4.out
  have HRf : Hid (w9.heap[w.heap.size + 1 + 1]? = some (PB 3 n d r l b g 1)) := hr9
  clear ho9 hs9 hB9 hr9
  obtain ⟨⟨q0, q1, q2, q3, q4, q5, q6, q7⟩, _⟩ := box8_cells HRf.out
  go_wp2
  refine bodyPost_ret (v := .tuple #[PV 3 n d r l b g 1, .bool true]) (by simp only [results, Tryz.results52]; simp [go_sem, q0, q1, q2, q3, q4, q5, q6, q7]) rfl ⟨by rw [HT.out]; rfl, HF.out⟩
theorem takeS_3_2 (n d r l b g k N D V : Int) (hp : Pm.ok ⟨2, n, d, r, l, b, g, k⟩) (ho : OrdR 3 N D V) (w : World) : Calls Tryz.prog 52 #[PV 2 n d r l b g k, .agg #[.int .i64 3, .int .i64 N, .int .i64 D, .int .i64 V]] w fun e w' => e = .returned (.tuple #[(Pm.take ⟨2, n, d, r, l, b, g, k⟩ 3 N D V).1.V, .bool (Pm.take ⟨2, n, d, r, l, b, g, k⟩ 3 N D V).2]) ∧ Below w.heap.size w w' := by
  have HT : Hid (Pm.take ⟨2, n, d, r, l, b, g, k⟩ 3 N D V = (⟨3, n, d, r, l, b, g, 2⟩, true)) := by show _ = _; unfold Pm.take; rw [or_yes ho, ok_yes hp]; simp
  have KP : Hid (∀ w, Calls Tryz.prog 94 #[PV 2 n d r l b g k] w fun e w' => e = .returned (.bool true) ∧ Below w.heap.size w w') := fun w => pumpokS ⟨2, n, d, r, l, b, g, k⟩ true ⟨fun _ => hp, fun _ => rfl⟩ w
  have KO : Hid (∀ w, Calls Tryz.prog 106 #[.agg #[.int .i64 3, .int .i64 N, .int .i64 D, .int .i64 V]] w fun e w' => e = .returned (.bool true) ∧ Below w.heap.size w w') := fun w => ordokS 3 N D V true ⟨fun _ => ho, fun _ => rfl⟩ w
  clear hp ho
  have HB0 : Hid (Below w.heap.size w (((w.alloc (PB 2 n d r l b g k)).alloc (oB 3 N D V)).alloc (PB 0 0 0 0 0 0 0 0))) := bel_on (Nat.le_refl _) (bel_on (Nat.le_refl _) (alP _ _) (alP _ _)) (alP _ _)
  have HP0 : Hid ((((w.alloc (PB 2 n d r l b g k)).alloc (oB 3 N D V)).alloc (PB 0 0 0 0 0 0 0 0)).heap[w.heap.size]? = some (PB 2 n d r l b g k)) := row_on (row_on (heap_new w _) (alP _ _)) (alP _ _)
  have HO0 : Hid ((((w.alloc (PB 2 n d r l b g k)).alloc (oB 3 N D V)).alloc (PB 0 0 0 0 0 0 0 0)).heap[w.heap.size + 1]? = some (oB 3 N D V)) := row_on (al_at (w.alloc (PB 2 n d r l b g k)) _ (by simp)) (alP _ _)
  have HZ0 : Hid ((((w.alloc (PB 2 n d r l b g k)).alloc (oB 3 N D V)).alloc (PB 0 0 0 0 0 0 0 0)).heap[w.heap.size + 1 + 1]? = some (PB 0 0 0 0 0 0 0 0)) := al_at ((w.alloc (PB 2 n d r l b g k)).alloc (oB 3 N D V)) _ (by simp)
  have p0 := box8_cells HP0.out
  have o0 := box4_cells HO0.out
  go_enter Tryz.func52, Tryz.ntmps52
  go_wp2_with fail
  refine (KP.out _).mono ?_
  rintro e w1 ⟨rfl, hb1⟩
  have HB1 := bq HB0 hb1
  have HP1 : Hid (w1.heap[w.heap.size]? = some (PB 2 n d r l b g k)) := row_on HP0.out hb1
  have HO1 : Hid (w1.heap[w.heap.size + 1]? = some (oB 3 N D V)) := row_on HO0.out hb1
  have HZ1 : Hid (w1.heap[w.heap.size + 1 + 1]? = some (PB 0 0 0 0 0 0 0 0)) := row_on HZ0.out hb1
  have p1 := box8_cells HP1.out
  have o1 := box4_cells HO1.out
  have z1 := box8_cells HZ1.out
  clear hb1 HB0 HP0 HO0 HZ0 p0 o0
  go_wp2_with fail
  refine (KO.out _).mono ?_
  rintro e w2 ⟨rfl, hb2⟩
  have HB2 := bq HB1 hb2
  have HP2 : Hid (w2.heap[w.heap.size]? = some (PB 2 n d r l b g k)) := row_on HP1.out hb2
  have HO2 : Hid (w2.heap[w.heap.size + 1]? = some (oB 3 N D V)) := row_on HO1.out hb2
  have HZ2 : Hid (w2.heap[w.heap.size + 1 + 1]? = some (PB 0 0 0 0 0 0 0 0)) := row_on HZ1.out hb2
  have p2 := box8_cells HP2.out
  have o2 := box4_cells HO2.out
  have z2 := box8_cells HZ2.out
  have hl2 := row_lt HZ2.out
  clear hb2 HB1 HP1 HO1 HZ1 p1 o1 z1
  have HN2 : Hid ((w2.alloc (PB 0 0 0 0 0 0 0 0)).heap[w2.heap.size]? = some (PB 0 0 0 0 0 0 0 0)) := heap_new w2 _
  have HPa : Hid ((w2.alloc (PB 0 0 0 0 0 0 0 0)).heap[w.heap.size]? = some (PB 2 n d r l b g k)) := row_on HP2.out (alP _ _)
  have HOa : Hid ((w2.alloc (PB 0 0 0 0 0 0 0 0)).heap[w.heap.size + 1]? = some (oB 3 N D V)) := row_on HO2.out (alP _ _)
  have HZa : Hid ((w2.alloc (PB 0 0 0 0 0 0 0 0)).heap[w.heap.size + 1 + 1]? = some (PB 0 0 0 0 0 0 0 0)) := row_on HZ2.out (alP _ _)
  have HBa : Hid (Below w.heap.size w (w2.alloc (PB 0 0 0 0 0 0 0 0))) := bel_on (Nat.le_refl _) HB2.out (alP _ _)
  go_wp2_with (refine listStoreP rfl rfl _ _ _ rfl rfl w2.heap.size (2) (n) (d) (r) (l) (b) (g) (k) rfl rfl HN2.out ?_)
  intro w3 hr3 ho3 hs3 hB3
  have hl3 : w.heap.size ≤ w2.heap.size := by omega
  have HB3 : Hid (Below w.heap.size w w3) := hB3 _ _ hl3 HBa.out
  have HN3 : Hid (w3.heap[w2.heap.size]? = some (PB 2 n d r l b g k)) := hr3
  have HP3 : Hid (w3.heap[w.heap.size]? = some (PB 2 n d r l b g k)) := (ho3 _ (by omega)).trans HPa.out
  have HO3 : Hid (w3.heap[w.heap.size + 1]? = some (oB 3 N D V)) := (ho3 _ (by omega)).trans HOa.out
  have HZ3 : Hid (w3.heap[w.heap.size + 1 + 1]? = some (PB 0 0 0 0 0 0 0 0)) := (ho3 _ (by omega)).trans HZa.out
  have p3 := box8_cells HP3.out
  have o3 := box4_cells HO3.out
  have n3 := box8_cells HN3.out
  clear hr3 ho3 hs3 hB3 HN2 HPa HOa HZa HBa HP2 HO2 HZ2 HB2 p2 o2 z2
  go_upto_region 19 with fail
  go_wp2_with (refine listStoreC rfl rfl _ _ _ rfl rfl w2.heap.size 0 (3) rfl rfl HN3.out (by simp) ?_)
  intro w30 hr ho hs hB
  have HB30 : Hid (Below w.heap.size w w30) := hB _ _ hl3 HB3.out
  have HN30 : Hid (w30.heap[w2.heap.size]? = some (PB 3 n d r l b g k)) := hr
  have HP30 : Hid (w30.heap[w.heap.size]? = some (PB 2 n d r l b g k)) := (ho _ (by omega)).trans HP3.out
  have HO30 : Hid (w30.heap[w.heap.size + 1]? = some (oB 3 N D V)) := (ho _ (by omega)).trans HO3.out
  have HZ30 : Hid (w30.heap[w.heap.size + 1 + 1]? = some (PB 0 0 0 0 0 0 0 0)) := (ho _ (by omega)).trans HZ3.out
  have p30 := box8_cells HP30.out
  have o30 := box4_cells HO30.out
  have n30 := box8_cells HN30.out
  clear hr ho hs hB HB3 HN3 HP3 HO3 HZ3 p3 o3 n3
  go_upto_region 20 with fail
  go_wp2_with (refine listStoreC rfl rfl _ _ _ rfl rfl w2.heap.size 7 (2) rfl rfl HN30.out (by simp) ?_)
  intro w31 hr ho hs hB
  have HB31 : Hid (Below w.heap.size w w31) := hB _ _ hl3 HB30.out
  have HN31 : Hid (w31.heap[w2.heap.size]? = some (PB 3 n d r l b g 2)) := hr
  have HP31 : Hid (w31.heap[w.heap.size]? = some (PB 2 n d r l b g k)) := (ho _ (by omega)).trans HP30.out
  have HO31 : Hid (w31.heap[w.heap.size + 1]? = some (oB 3 N D V)) := (ho _ (by omega)).trans HO30.out
  have HZ31 : Hid (w31.heap[w.heap.size + 1 + 1]? = some (PB 0 0 0 0 0 0 0 0)) := (ho _ (by omega)).trans HZ30.out
  have p31 := box8_cells HP31.out
  have o31 := box4_cells HO31.out
  have n31 := box8_cells HN31.out
  clear hr ho hs hB HB30 HN30 HP30 HO30 HZ30 p30 o30 n30
  have HB4 : Hid (Below w.heap.size w w31) := HB31.out
  have HZ4 : Hid (w31.heap[w.heap.size + 1 + 1]? = some (PB 0 0 0 0 0 0 0 0)) := HZ31.out
  go_upto_region 31 with fail
  go_wp2_with (refine listStoreP rfl rfl _ _ _ rfl rfl (w.heap.size + 1 + 1) (3) (n) (d) (r) (l) (b) (g) (2) rfl rfl HZ4.out ?_)
  intro w9 hr9 ho9 hs9 hB9
  have HF : Hid (Below w.heap.size w w9) := hB9 _ _ (le2 _) HB4.out
  have HRf : Hid (w9.heap[w.heap.size + 1 + 1]? = some (PB 3 n d r l b g 2)) := hr9
  clear ho9 hs9 hB9 hr9
  obtain ⟨⟨q0, q1, q2, q3, q4, q5, q6, q7⟩, _⟩ := box8_cells HRf.out
  go_wp2
  refine bodyPost_ret (v := .tuple #[PV 3 n d r l b g 2, .bool true]) (by simp only [results, Tryz.results52]; simp [go_sem, q0, q1, q2, q3, q4, q5, q6, q7]) rfl ⟨by rw [HT.out]; rfl, HF.out⟩
theorem takeS_3_3 (n d r l b g k N D V : Int) (hp : Pm.ok ⟨3, n, d, r, l, b, g, k⟩) (ho : OrdR 3 N D V) (w : World) : Calls Tryz.prog 52 #[PV 3 n d r l b g k, .agg #[.int .i64 3, .int .i64 N, .int .i64 D, .int .i64 V]] w fun e w' => e = .returned (.tuple #[(Pm.take ⟨3, n, d, r, l, b, g, k⟩ 3 N D V).1.V, .bool (Pm.take ⟨3, n, d, r, l, b, g, k⟩ 3 N D V).2]) ∧ Below w.heap.size w w' := by
  have HT : Hid (Pm.take ⟨3, n, d, r, l, b, g, k⟩ 3 N D V = (⟨3, n, d, r, l, b, g, k⟩, false)) := by show _ = _; unfold Pm.take; rw [or_yes ho, ok_yes hp]; simp
  have KP : Hid (∀ w, Calls Tryz.prog 94 #[PV 3 n d r l b g k] w fun e w' => e = .returned (.bool true) ∧ Below w.heap.size w w') := fun w => pumpokS ⟨3, n, d, r, l, b, g, k⟩ true ⟨fun _ => hp, fun _ => rfl⟩ w
  have KO : Hid (∀ w, Calls Tryz.prog 106 #[.agg #[.int .i64 3, .int .i64 N, .int .i64 D, .int .i64 V]] w fun e w' => e = .returned (.bool true) ∧ Below w.heap.size w w') := fun w => ordokS 3 N D V true ⟨fun _ => ho, fun _ => rfl⟩ w
  clear hp ho
  have HB0 : Hid (Below w.heap.size w (((w.alloc (PB 3 n d r l b g k)).alloc (oB 3 N D V)).alloc (PB 0 0 0 0 0 0 0 0))) := bel_on (Nat.le_refl _) (bel_on (Nat.le_refl _) (alP _ _) (alP _ _)) (alP _ _)
  have HP0 : Hid ((((w.alloc (PB 3 n d r l b g k)).alloc (oB 3 N D V)).alloc (PB 0 0 0 0 0 0 0 0)).heap[w.heap.size]? = some (PB 3 n d r l b g k)) := row_on (row_on (heap_new w _) (alP _ _)) (alP _ _)
  have HO0 : Hid ((((w.alloc (PB 3 n d r l b g k)).alloc (oB 3 N D V)).alloc (PB 0 0 0 0 0 0 0 0)).heap[w.heap.size + 1]? = some (oB 3 N D V)) := row_on (al_at (w.alloc (PB 3 n d r l b g k)) _ (by simp)) (alP _ _)
  have HZ0 : Hid ((((w.alloc (PB 3 n d r l b g k)).alloc (oB 3 N D V)).alloc (PB 0 0 0 0 0 0 0 0)).heap[w.heap.size + 1 + 1]? = some (PB 0 0 0 0 0 0 0 0)) := al_at ((w.alloc (PB 3 n d r l b g k)).alloc (oB 3 N D V)) _ (by simp)
  have p0 := box8_cells HP0.out
  have o0 := box4_cells HO0.out
  go_enter Tryz.func52, Tryz.ntmps52
  go_wp2_with fail
  refine (KP.out _).mono ?_
  rintro e w1 ⟨rfl, hb1⟩
  have HB1 := bq HB0 hb1
  have HP1 : Hid (w1.heap[w.heap.size]? = some (PB 3 n d r l b g k)) := row_on HP0.out hb1
  have HO1 : Hid (w1.heap[w.heap.size + 1]? = some (oB 3 N D V)) := row_on HO0.out hb1
  have HZ1 : Hid (w1.heap[w.heap.size + 1 + 1]? = some (PB 0 0 0 0 0 0 0 0)) := row_on HZ0.out hb1
  have p1 := box8_cells HP1.out
  have o1 := box4_cells HO1.out
  have z1 := box8_cells HZ1.out
  clear hb1 HB0 HP0 HO0 HZ0 p0 o0
  go_wp2_with fail
  refine (KO.out _).mono ?_
  rintro e w2 ⟨rfl, hb2⟩
  have HB2 := bq HB1 hb2
  have HP2 : Hid (w2.heap[w.heap.size]? = some (PB 3 n d r l b g k)) := row_on HP1.out hb2
  have HO2 : Hid (w2.heap[w.heap.size + 1]? = some (oB 3 N D V)) := row_on HO1.out hb2
  have HZ2 : Hid (w2.heap[w.heap.size + 1 + 1]? = some (PB 0 0 0 0 0 0 0 0)) := row_on HZ1.out hb2
  have p2 := box8_cells HP2.out
  have o2 := box4_cells HO2.out
  have z2 := box8_cells HZ2.out
  have hl2 := row_lt HZ2.out
  clear hb2 HB1 HP1 HO1 HZ1 p1 o1 z1
  have HN2 : Hid ((w2.alloc (PB 0 0 0 0 0 0 0 0)).heap[w2.heap.size]? = some (PB 0 0 0 0 0 0 0 0)) := heap_new w2 _
  have HPa : Hid ((w2.alloc (PB 0 0 0 0 0 0 0 0)).heap[w.heap.size]? = some (PB 3 n d r l b g k)) := row_on HP2.out (alP _ _)
  have HOa : Hid ((w2.alloc (PB 0 0 0 0 0 0 0 0)).heap[w.heap.size + 1]? = some (oB 3 N D V)) := row_on HO2.out (alP _ _)
  have HZa : Hid ((w2.alloc (PB 0 0 0 0 0 0 0 0)).heap[w.heap.size + 1 + 1]? = some (PB 0 0 0 0 0 0 0 0)) := row_on HZ2.out (alP _ _)
  have HBa : Hid (Below w.heap.size w (w2.alloc (PB 0 0 0 0 0 0 0 0))) := bel_on (Nat.le_refl _) HB2.out (alP _ _)
  go_wp2_with (refine listStoreP rfl rfl _ _ _ rfl rfl w2.heap.size (3) (n) (d) (r) (l) (b) (g) (k) rfl rfl HN2.out ?_)
  intro w3 hr3 ho3 hs3 hB3
  have hl3 : w.heap.size ≤ w2.heap.size := by omega
  have HB3 : Hid (Below w.heap.size w w3) := hB3 _ _ hl3 HBa.out
  have HN3 : Hid (w3.heap[w2.heap.size]? = some (PB 3 n d r l b g k)) := hr3
  have HP3 : Hid (w3.heap[w.heap.size]? = some (PB 3 n d r l b g k)) := (ho3 _ (by omega)).trans HPa.out
  have HO3 : Hid (w3.heap[w.heap.size + 1]? = some (oB 3 N D V)) := (ho3 _ (by omega)).trans HOa.out
  have HZ3 : Hid (w3.heap[w.heap.size + 1 + 1]? = some (PB 0 0 0 0 0 0 0 0)) := (ho3 _ (by omega)).trans HZa.out
  have p3 := box8_cells HP3.out
  have o3 := box4_cells HO3.out
  have n3 := box8_cells HN3.out
  clear hr3 ho3 hs3 hB3 HN2 HPa HOa HZa HBa HP2 HO2 HZ2 HB2 p2 o2 z2
  have HB4 : Hid (Below w.heap.size w w3) := HB3.out
  have HZ4 : Hid (w3.heap[w.heap.size + 1 + 1]? = some (PB 0 0 0 0 0 0 0 0)) := HZ3.out
  go_upto_region 18 with fail
  go_wp2_with (refine listStoreP rfl rfl _ _ _ rfl rfl (w.heap.size + 1 + 1) (3) (n) (d) (r) (l) (b) (g) (k) rfl rfl HZ4.out ?_)
  intro w9 hr9 ho9 hs9 hB9
  have HF : Hid (Below w.heap.size w w9) := hB9 _ _ (le2 _) HB4.out
  have HRf : Hid (w9.heap[w.heap.size + 1 + 1]? = some (PB 3 n d r l b g k)) := hr9
  clear ho9 hs9 hB9 hr9
  obtain ⟨⟨q0, q1, q2, q3, q4, q5, q6, q7⟩, _⟩ := box8_cells HRf.out
  go_wp2
  refine bodyPost_ret (v := .tuple #[PV 3 n d r l b g k, .bool false]) (by simp only [results, Tryz.results52]; simp [go_sem, q0, q1, q2, q3, q4, q5, q6, q7]) rfl ⟨by rw [HT.out]; rfl, HF.out⟩
theorem takeS_4_0 (n d r l b g k N D V : Int) (hp : Pm.ok ⟨0, n, d, r, l, b, g, k⟩) (ho : OrdR 4 N D V) (w : World) : Calls Tryz.prog 52 #[PV 0 n d r l b g k, .agg #[.int .i64 4, .int .i64 N, .int .i64 D, .int .i64 V]] w fun e w' => e = .returned (.tuple #[(Pm.take ⟨0, n, d, r, l, b, g, k⟩ 4 N D V).1.V, .bool (Pm.take ⟨0, n, d, r, l, b, g, k⟩ 4 N D V).2]) ∧ Below w.heap.size w w' := by
  have HT : Hid (Pm.take ⟨0, n, d, r, l, b, g, k⟩ 4 N D V = (⟨0, n, d, r, l, b, g, k⟩, false)) := by show _ = _; unfold Pm.take; rw [or_yes ho, ok_yes hp]; simp
  have KP : Hid (∀ w, Calls Tryz.prog 94 #[PV 0 n d r l b g k] w fun e w' => e = .returned (.bool true) ∧ Below w.heap.size w w') := fun w => pumpokS ⟨0, n, d, r, l, b, g, k⟩ true ⟨fun _ => hp, fun _ => rfl⟩ w
  have KO : Hid (∀ w, Calls Tryz.prog 106 #[.agg #[.int .i64 4, .int .i64 N, .int .i64 D, .int .i64 V]] w fun e w' => e = .returned (.bool true) ∧ Below w.heap.size w w') := fun w => ordokS 4 N D V true ⟨fun _ => ho, fun _ => rfl⟩ w
  clear hp ho
  have HB0 : Hid (Below w.heap.size w (((w.alloc (PB 0 n d r l b g k)).alloc (oB 4 N D V)).alloc (PB 0 0 0 0 0 0 0 0))) := bel_on (Nat.le_refl _) (bel_on (Nat.le_refl _) (alP _ _) (alP _ _)) (alP _ _)
  have HP0 : Hid ((((w.alloc (PB 0 n d r l b g k)).alloc (oB 4 N D V)).alloc (PB 0 0 0 0 0 0 0 0)).heap[w.heap.size]? = some (PB 0 n d r l b g k)) := row_on (row_on (heap_new w _) (alP _ _)) (alP _ _)
  have HO0 : Hid ((((w.alloc (PB 0 n d r l b g k)).alloc (oB 4 N D V)).alloc (PB 0 0 0 0 0 0 0 0)).heap[w.heap.size + 1]? = some (oB 4 N D V)) := row_on (al_at (w.alloc (PB 0 n d r l b g k)) _ (by simp)) (alP _ _)
  have HZ0 : Hid ((((w.alloc (PB 0 n d r l b g k)).alloc (oB 4 N D V)).alloc (PB 0 0 0 0 0 0 0 0)).heap[w.heap.size + 1 + 1]? = some (PB 0 0 0 0 0 0 0 0)) := al_at ((w.alloc (PB 0 n d r l b g k)).alloc (oB 4 N D V)) _ (by simp)
  have p0 := box8_cells HP0.out
  have o0 := box4_cells HO0.out
  go_enter Tryz.func52, Tryz.ntmps52
  go_wp2_with fail
  refine (KP.out _).mono ?_
  rintro e w1 ⟨rfl, hb1⟩
  have HB1 := bq HB0 hb1
  have HP1 : Hid (w1.heap[w.heap.size]? = some (PB 0 n d r l b g k)) := row_on HP0.out hb1
  have HO1 : Hid (w1.heap[w.heap.size + 1]? = some (oB 4 N D V)) := row_on HO0.out hb1
  have HZ1 : Hid (w1.heap[w.heap.size + 1 + 1]? = some (PB 0 0 0 0 0 0 0 0)) := row_on HZ0.out hb1
  have p1 := box8_cells HP1.out
  have o1 := box4_cells HO1.out
  have z1 := box8_cells HZ1.out
  clear hb1 HB0 HP0 HO0 HZ0 p0 o0
  go_wp2_with fail
  refine (KO.out _).mono ?_
  rintro e w2 ⟨rfl, hb2⟩
  have HB2 := bq HB1 hb2
  have HP2 : Hid (w2.heap[w.heap.size]? = some (PB 0 n d r l b g k)) := row_on HP1.out hb2
  have HO2 : Hid (w2.heap[w.heap.size + 1]? = some (oB 4 N D V)) := row_on HO1.out hb2
  have HZ2 : Hid (w2.heap[w.heap.size + 1 + 1]? = some (PB 0 0 0 0 0 0 0 0)) := row_on HZ1.out hb2
  have p2 := box8_cells HP2.out
  have o2 := box4_cells HO2.out
  have z2 := box8_cells HZ2.out
  have hl2 := row_lt HZ2.out
  clear hb2 HB1 HP1 HO1 HZ1 p1 o1 z1
  have HN2 : Hid ((w2.alloc (PB 0 0 0 0 0 0 0 0)).heap[w2.heap.size]? = some (PB 0 0 0 0 0 0 0 0)) := heap_new w2 _
  have HPa : Hid ((w2.alloc (PB 0 0 0 0 0 0 0 0)).heap[w.heap.size]? = some (PB 0 n d r l b g k)) := row_on HP2.out (alP _ _)
  have HOa : Hid ((w2.alloc (PB 0 0 0 0 0 0 0 0)).heap[w.heap.size + 1]? = some (oB 4 N D V)) := row_on HO2.out (alP _ _)
  have HZa : Hid ((w2.alloc (PB 0 0 0 0 0 0 0 0)).heap[w.heap.size + 1 + 1]? = some (PB 0 0 0 0 0 0 0 0)) := row_on HZ2.out (alP _ _)
  have HBa : Hid (Below w.heap.size w (w2.alloc (PB 0 0 0 0 0 0 0 0))) := bel_on (Nat.le_refl _) HB2.out (alP _ _)
  go_wp2_with (refine listStoreP rfl rfl _ _ _ rfl rfl w2.heap.size (0) (n) (d) (r) (l) (b) (g) (k) rfl rfl HN2.out ?_)
  intro w3 hr3 ho3 hs3 hB3
  have hl3 : w.heap.size ≤ w2.heap.size := by omega
  have HB3 : Hid (Below w.heap.size w w3) := hB3 _ _ hl3 HBa.out
  have HN3 : Hid (w3.heap[w2.heap.size]? = some (PB 0 n d r l b g k)) := hr3
  have HP3 : Hid (w3.heap[w.heap.size]? = some (PB 0 n d r l b g k)) := (ho3 _ (by omega)).trans HPa.out
  have HO3 : Hid (w3.heap[w.heap.size + 1]? = some (oB 4 N D V)) := (ho3 _ (by omega)).trans HOa.out
  have HZ3 : Hid (w3.heap[w.heap.size + 1 + 1]? = some (PB 0 0 0 0 0 0 0 0)) := (ho3 _ (by omega)).trans HZa.out
  have p3 := box8_cells HP3.out
  have o3 := box4_cells HO3.out
  have n3 := box8_cells HN3.out
  clear hr3 ho3 hs3 hB3 HN2 HPa HOa HZa HBa HP2 HO2 HZ2 HB2 p2 o2 z2
  have HB4 : Hid (Below w.heap.size w w3) := HB3.out
  have HZ4 : Hid (w3.heap[w.heap.size + 1 + 1]? = some (PB 0 0 0 0 0 0 0 0)) := HZ3.out
  go_upto_region 23 with fail
  go_wp2_with (refine listStoreP rfl rfl _ _ _ rfl rfl (w.heap.size + 1 + 1) (0) (n) (d) (r) (l) (b) (g) (k) rfl rfl HZ4.out ?_)
  intro w9 hr9 ho9 hs9 hB9
  have HF : Hid (Below w.heap.size w w9) := hB9 _ _ (le2 _) HB4.out
  have HRf : Hid (w9.heap[w.heap.size + 1 + 1]? = some (PB 0 n d r l b g k)) := hr9
  clear ho9 hs9 hB9 hr9
  obtain ⟨⟨q0, q1, q2, q3, q4, q5, q6, q7⟩, _⟩ := box8_cells HRf.out
  go_wp2
  refine bodyPost_ret (v := .tuple #[PV 0 n d r l b g k, .bool false]) (by simp only [results, Tryz.results52]; simp [go_sem, q0, q1, q2, q3, q4, q5, q6, q7]) rfl ⟨by rw [HT.out]; rfl, HF.out⟩
theorem takeS_4_1 (n d r l b g k N D V : Int) (hp : Pm.ok ⟨1, n, d, r, l, b, g, k⟩) (ho : OrdR 4 N D V) (w : World) : Calls Tryz.prog 52 #[PV 1 n d r l b g k, .agg #[.int .i64 4, .int .i64 N, .int .i64 D, .int .i64 V]] w fun e w' => e = .returned (.tuple #[(Pm.take ⟨1, n, d, r, l, b, g, k⟩ 4 N D V).1.V, .bool (Pm.take ⟨1, n, d, r, l, b, g, k⟩ 4 N D V).2]) ∧ Below w.heap.size w w' := by
  have HT : Hid (Pm.take ⟨1, n, d, r, l, b, g, k⟩ 4 N D V = (⟨1, n, d, r, l, b, g, k⟩, false)) := by show _ = _; unfold Pm.take; rw [or_yes ho, ok_yes hp]; simp
  have KP : Hid (∀ w, Calls Tryz.prog 94 #[PV 1 n d r l b g k] w fun e w' => e = .returned (.bool true) ∧ Below w.heap.size w w') := fun w => pumpokS ⟨1, n, d, r, l, b, g, k⟩ true ⟨fun _ => hp, fun _ => rfl⟩ w
  have KO : Hid (∀ w, Calls Tryz.prog 106 #[.agg #[.int .i64 4, .int .i64 N, .int .i64 D, .int .i64 V]] w fun e w' => e = .returned (.bool true) ∧ Below w.heap.size w w') := fun w => ordokS 4 N D V true ⟨fun _ => ho, fun _ => rfl⟩ w
  clear hp ho
  have HB0 : Hid (Below w.heap.size w (((w.alloc (PB 1 n d r l b g k)).alloc (oB 4 N D V)).alloc (PB 0 0 0 0 0 0 0 0))) := bel_on (Nat.le_refl _) (bel_on (Nat.le_refl _) (alP _ _) (alP _ _)) (alP _ _)
  have HP0 : Hid ((((w.alloc (PB 1 n d r l b g k)).alloc (oB 4 N D V)).alloc (PB 0 0 0 0 0 0 0 0)).heap[w.heap.size]? = some (PB 1 n d r l b g k)) := row_on (row_on (heap_new w _) (alP _ _)) (alP _ _)
  have HO0 : Hid ((((w.alloc (PB 1 n d r l b g k)).alloc (oB 4 N D V)).alloc (PB 0 0 0 0 0 0 0 0)).heap[w.heap.size + 1]? = some (oB 4 N D V)) := row_on (al_at (w.alloc (PB 1 n d r l b g k)) _ (by simp)) (alP _ _)
  have HZ0 : Hid ((((w.alloc (PB 1 n d r l b g k)).alloc (oB 4 N D V)).alloc (PB 0 0 0 0 0 0 0 0)).heap[w.heap.size + 1 + 1]? = some (PB 0 0 0 0 0 0 0 0)) := al_at ((w.alloc (PB 1 n d r l b g k)).alloc (oB 4 N D V)) _ (by simp)
  have p0 := box8_cells HP0.out
  have o0 := box4_cells HO0.out
  go_enter Tryz.func52, Tryz.ntmps52
  go_wp2_with fail
  refine (KP.out _).mono ?_
  rintro e w1 ⟨rfl, hb1⟩
  have HB1 := bq HB0 hb1
  have HP1 : Hid (w1.heap[w.heap.size]? = some (PB 1 n d r l b g k)) := row_on HP0.out hb1
  have HO1 : Hid (w1.heap[w.heap.size + 1]? = some (oB 4 N D V)) := row_on HO0.out hb1
  have HZ1 : Hid (w1.heap[w.heap.size + 1 + 1]? = some (PB 0 0 0 0 0 0 0 0)) := row_on HZ0.out hb1
  have p1 := box8_cells HP1.out
  have o1 := box4_cells HO1.out
  have z1 := box8_cells HZ1.out
  clear hb1 HB0 HP0 HO0 HZ0 p0 o0
  go_wp2_with fail
  refine (KO.out _).mono ?_
  rintro e w2 ⟨rfl, hb2⟩
  have HB2 := bq HB1 hb2
  have HP2 : Hid (w2.heap[w.heap.size]? = some (PB 1 n d r l b g k)) := row_on HP1.out hb2
  have HO2 : Hid (w2.heap[w.heap.size + 1]? = some (oB 4 N D V)) := row_on HO1.out hb2
  have HZ2 : Hid (w2.heap[w.heap.size + 1 + 1]? = some (PB 0 0 0 0 0 0 0 0)) := row_on HZ1.out hb2
  have p2 := box8_cells HP2.out
  have o2 := box4_cells HO2.out
  have z2 := box8_cells HZ2.out
  have hl2 := row_lt HZ2.out
  clear hb2 HB1 HP1 HO1 HZ1 p1 o1 z1
  have HN2 : Hid ((w2.alloc (PB 0 0 0 0 0 0 0 0)).heap[w2.heap.size]? = some (PB 0 0 0 0 0 0 0 0)) := heap_new w2 _
  have HPa : Hid ((w2.alloc (PB 0 0 0 0 0 0 0 0)).heap[w.heap.size]? = some (PB 1 n d r l b g k)) := row_on HP2.out (alP _ _)
  have HOa : Hid ((w2.alloc (PB 0 0 0 0 0 0 0 0)).heap[w.heap.size + 1]? = some (oB 4 N D V)) := row_on HO2.out (alP _ _)
  have HZa : Hid ((w2.alloc (PB 0 0 0 0 0 0 0 0)).heap[w.heap.size + 1 + 1]? = some (PB 0 0 0 0 0 0 0 0)) := row_on HZ2.out (alP _ _)
  have HBa : Hid (Below w.heap.size w (w2.alloc (PB 0 0 0 0 0 0 0 0))) := bel_on (Nat.le_refl _) HB2.out (alP _ _)
  go_wp2_with (refine listStoreP rfl rfl _ _ _ rfl rfl w2.heap.size (1) (n) (d) (r) (l) (b) (g) (k) rfl rfl HN2.out ?_)
  intro w3 hr3 ho3 hs3 hB3
  have hl3 : w.heap.size ≤ w2.heap.size := by omega
  have HB3 : Hid (Below w.heap.size w w3) := hB3 _ _ hl3 HBa.out
  have HN3 : Hid (w3.heap[w2.heap.size]? = some (PB 1 n d r l b g k)) := hr3
  have HP3 : Hid (w3.heap[w.heap.size]? = some (PB 1 n d r l b g k)) := (ho3 _ (by omega)).trans HPa.out
  have HO3 : Hid (w3.heap[w.heap.size + 1]? = some (oB 4 N D V)) := (ho3 _ (by omega)).trans HOa.out
  have HZ3 : Hid (w3.heap[w.heap.size + 1 + 1]? = some (PB 0 0 0 0 0 0 0 0)) := (ho3 _ (by omega)).trans HZa.out
  have p3 := box8_cells HP3.out
  have o3 := box4_cells HO3.out
  have n3 := box8_cells HN3.out
  clear hr3 ho3 hs3 hB3 HN2 HPa HOa HZa HBa HP2 HO2 HZ2 HB2 p2 o2 z2
  have HB4 : Hid (Below w.heap.size w w3) := HB3.out
  have HZ4 : Hid (w3.heap[w.heap.size + 1 + 1]? = some (PB 0 0 0 0 0 0 0 0)) := HZ3.out
  go_upto_region 23 with fail
  go_wp2_with (refine listStoreP rfl rfl _ _ _ rfl rfl (w.heap.size + 1 + 1) (1) (n) (d) (r) (l) (b) (g) (k) rfl rfl HZ4.out ?_)
  intro w9 hr9 ho9 hs9 hB9
  have HF : Hid (Below w.heap.size w w9) := hB9 _ _ (le2 _) HB4.out
  have HRf : Hid (w9.heap[w.heap.size + 1 + 1]? = some (PB 1 n d r l b g k)) := hr9
  clear ho9 hs9 hB9 hr9
  obtain ⟨⟨q0, q1, q2, q3, q4, q5, q6, q7⟩, _⟩ := box8_cells HRf.out
  go_wp2
  refine bodyPost_ret (v := .tuple #[PV 1 n d r l b g k, .bool false]) (by simp only [results, Tryz.results52]; simp [go_sem, q0, q1, q2, q3, q4, q5, q6, q7]) rfl ⟨by rw [HT.out]; rfl, HF.out⟩
theorem takeS_4_2 (n d r l b g k N D V : Int) (hp : Pm.ok ⟨2, n, d, r, l, b, g, k⟩) (ho : OrdR 4 N D V) (w : World) : Calls Tryz.prog 52 #[PV 2 n d r l b g k, .agg #[.int .i64 4, .int .i64 N, .int .i64 D, .int .i64 V]] w fun e w' => e = .returned (.tuple #[(Pm.take ⟨2, n, d, r, l, b, g, k⟩ 4 N D V).1.V, .bool (Pm.take ⟨2, n, d, r, l, b, g, k⟩ 4 N D V).2]) ∧ Below w.heap.size w w' := by
  have HT : Hid (Pm.take ⟨2, n, d, r, l, b, g, k⟩ 4 N D V = (⟨2, n, d, r, l, b, g, k⟩, false)) := by show _ = _; unfold Pm.take; rw [or_yes ho, ok_yes hp]; simp
  have KP : Hid (∀ w, Calls Tryz.prog 94 #[PV 2 n d r l b g k] w fun e w' => e = .returned (.bool true) ∧ Below w.heap.size w w') := fun w => pumpokS ⟨2, n, d, r, l, b, g, k⟩ true ⟨fun _ => hp, fun _ => rfl⟩ w
  have KO : Hid (∀ w, Calls Tryz.prog 106 #[.agg #[.int .i64 4, .int .i64 N, .int .i64 D, .int .i64 V]] w fun e w' => e = .returned (.bool true) ∧ Below w.heap.size w w') := fun w => ordokS 4 N D V true ⟨fun _ => ho, fun _ => rfl⟩ w
  clear hp ho
  have HB0 : Hid (Below w.heap.size w (((w.alloc (PB 2 n d r l b g k)).alloc (oB 4 N D V)).alloc (PB 0 0 0 0 0 0 0 0))) := bel_on (Nat.le_refl _) (bel_on (Nat.le_refl _) (alP _ _) (alP _ _)) (alP _ _)
  have HP0 : Hid ((((w.alloc (PB 2 n d r l b g k)).alloc (oB 4 N D V)).alloc (PB 0 0 0 0 0 0 0 0)).heap[w.heap.size]? = some (PB 2 n d r l b g k)) := row_on (row_on (heap_new w _) (alP _ _)) (alP _ _)
  have HO0 : Hid ((((w.alloc (PB 2 n d r l b g k)).alloc (oB 4 N D V)).alloc (PB 0 0 0 0 0 0 0 0)).heap[w.heap.size + 1]? = some (oB 4 N D V)) := row_on (al_at (w.alloc (PB 2 n d r l b g k)) _ (by simp)) (alP _ _)
  have HZ0 : Hid ((((w.alloc (PB 2 n d r l b g k)).alloc (oB 4 N D V)).alloc (PB 0 0 0 0 0 0 0 0)).heap[w.heap.size + 1 + 1]? = some (PB 0 0 0 0 0 0 0 0)) := al_at ((w.alloc (PB 2 n d r l b g k)).alloc (oB 4 N D V)) _ (by simp)
  have p0 := box8_cells HP0.out
  have o0 := box4_cells HO0.out
  go_enter Tryz.func52, Tryz.ntmps52
  go_wp2_with fail
  refine (KP.out _).mono ?_
  rintro e w1 ⟨rfl, hb1⟩
  have HB1 := bq HB0 hb1
  have HP1 : Hid (w1.heap[w.heap.size]? = some (PB 2 n d r l b g k)) := row_on HP0.out hb1
  have HO1 : Hid (w1.heap[w.heap.size + 1]? = some (oB 4 N D V)) := row_on HO0.out hb1
  have HZ1 : Hid (w1.heap[w.heap.size + 1 + 1]? = some (PB 0 0 0 0 0 0 0 0)) := row_on HZ0.out hb1
  have p1 := box8_cells HP1.out
  have o1 := box4_cells HO1.out
  have z1 := box8_cells HZ1.out
  clear hb1 HB0 HP0 HO0 HZ0 p0 o0
  go_wp2_with fail
  refine (KO.out _).mono ?_
  rintro e w2 ⟨rfl, hb2⟩
  have HB2 := bq HB1 hb2
  have HP2 : Hid (w2.heap[w.heap.size]? = some (PB 2 n d r l b g k)) := row_on HP1.out hb2
  have HO2 : Hid (w2.heap[w.heap.size + 1]? = some (oB 4 N D V)) := row_on HO1.out hb2
  have HZ2 : Hid (w2.heap[w.heap.size + 1 + 1]? = some (PB 0 0 0 0 0 0 0 0)) := row_on HZ1.out hb2
  have p2 := box8_cells HP2.out
  have o2 := box4_cells HO2.out
  have z2 := box8_cells HZ2.out
  have hl2 := row_lt HZ2.out
  clear hb2 HB1 HP1 HO1 HZ1 p1 o1 z1
  have HN2 : Hid ((w2.alloc (PB 0 0 0 0 0 0 0 0)).heap[w2.heap.size]? = some (PB 0 0 0 0 0 0 0 0)) := heap_new w2 _
  have HPa : Hid ((w2.alloc (PB 0 0 0 0 0 0 0 0)).heap[w.heap.size]? = some (PB 2 n d r l b g k)) := row_on HP2.out (alP _ _)
  have HOa : Hid ((w2.alloc (PB 0 0 0 0 0 0 0 0)).heap[w.heap.size + 1]? = some (oB 4 N D V)) := row_on HO2.out (alP _ _)
  have HZa : Hid ((w2.alloc (PB 0 0 0 0 0 0 0 0)).heap[w.heap.size + 1 + 1]? = some (PB 0 0 0 0 0 0 0 0)) := row_on HZ2.out (alP _ _)
  have HBa : Hid (Below w.heap.size w (w2.alloc (PB 0 0 0 0 0 0 0 0))) := bel_on (Nat.le_refl _) HB2.out (alP _ _)
  go_wp2_with (refine listStoreP rfl rfl _ _ _ rfl rfl w2.heap.size (2) (n) (d) (r) (l) (b) (g) (k) rfl rfl HN2.out ?_)
  intro w3 hr3 ho3 hs3 hB3
  have hl3 : w.heap.size ≤ w2.heap.size := by omega
  have HB3 : Hid (Below w.heap.size w w3) := hB3 _ _ hl3 HBa.out
  have HN3 : Hid (w3.heap[w2.heap.size]? = some (PB 2 n d r l b g k)) := hr3
  have HP3 : Hid (w3.heap[w.heap.size]? = some (PB 2 n d r l b g k)) := (ho3 _ (by omega)).trans HPa.out
  have HO3 : Hid (w3.heap[w.heap.size + 1]? = some (oB 4 N D V)) := (ho3 _ (by omega)).trans HOa.out
  have HZ3 : Hid (w3.heap[w.heap.size + 1 + 1]? = some (PB 0 0 0 0 0 0 0 0)) := (ho3 _ (by omega)).trans HZa.out
  have p3 := box8_cells HP3.out
  have o3 := box4_cells HO3.out
  have n3 := box8_cells HN3.out
  clear hr3 ho3 hs3 hB3 HN2 HPa HOa HZa HBa HP2 HO2 HZ2 HB2 p2 o2 z2
  have HB4 : Hid (Below w.heap.size w w3) := HB3.out
  have HZ4 : Hid (w3.heap[w.heap.size + 1 + 1]? = some (PB 0 0 0 0 0 0 0 0)) := HZ3.out
  go_upto_region 23 with fail
  go_wp2_with (refine listStoreP rfl rfl _ _ _ rfl rfl (w.heap.size + 1 + 1) (2) (n) (d) (r) (l) (b) (g) (k) rfl rfl HZ4.out ?_)
  intro w9 hr9 ho9 hs9 hB9
  have HF : Hid (Below w.heap.size w w9) := hB9 _ _ (le2 _) HB4.out
  have HRf : Hid (w9.heap[w.heap.size + 1 + 1]? = some (PB 2 n d r l b g k)) := hr9
  clear ho9 hs9 hB9 hr9
  obtain ⟨⟨q0, q1, q2, q3, q4, q5, q6, q7⟩, _⟩ := box8_cells HRf.out
  go_wp2
  refine bodyPost_ret (v := .tuple #[PV 2 n d r l b g k, .bool false]) (by simp only [results, Tryz.results52]; simp [go_sem, q0, q1, q2, q3, q4, q5, q6, q7]) rfl ⟨by rw [HT.out]; rfl, HF.out⟩
theorem takeS_4_3 (n d r l b g k N D V : Int) (hp : Pm.ok ⟨3, n, d, r, l, b, g, k⟩) (ho : OrdR 4 N D V) (w : World) : Calls Tryz.prog 52 #[PV 3 n d r l b g k, .agg #[.int .i64 4, .int .i64 N, .int .i64 D, .int .i64 V]] w fun e w' => e = .returned (.tuple #[(Pm.take ⟨3, n, d, r, l, b, g, k⟩ 4 N D V).1.V, .bool (Pm.take ⟨3, n, d, r, l, b, g, k⟩ 4 N D V).2]) ∧ Below w.heap.size w w' := by
  have HT : Hid (Pm.take ⟨3, n, d, r, l, b, g, k⟩ 4 N D V = (⟨k, n, d, r, l, b, g, 0⟩, true)) := by show _ = _; unfold Pm.take; rw [or_yes ho, ok_yes hp]; simp
  have KP : Hid (∀ w, Calls Tryz.prog 94 #[PV 3 n d r l b g k] w fun e w' => e = .returned (.bool true) ∧ Below w.heap.size w w') := fun w => pumpokS ⟨3, n, d, r, l, b, g, k⟩ true ⟨fun _ => hp, fun _ => rfl⟩ w
  have KO : Hid (∀ w, Calls Tryz.prog 106 #[.agg #[.int .i64 4, .int .i64 N, .int .i64 D, .int .i64 V]] w fun e w' => e = .returned (.bool true) ∧ Below w.heap.size w w') := fun w => ordokS 4 N D V true ⟨fun _ => ho, fun _ => rfl⟩ w
  clear hp ho
  have HB0 : Hid (Below w.heap.size w (((w.alloc (PB 3 n d r l b g k)).alloc (oB 4 N D V)).alloc (PB 0 0 0 0 0 0 0 0))) := bel_on (Nat.le_refl _) (bel_on (Nat.le_refl _) (alP _ _) (alP _ _)) (alP _ _)
  have HP0 : Hid ((((w.alloc (PB 3 n d r l b g k)).alloc (oB 4 N D V)).alloc (PB 0 0 0 0 0 0 0 0)).heap[w.heap.size]? = some (PB 3 n d r l b g k)) := row_on (row_on (heap_new w _) (alP _ _)) (alP _ _)
  have HO0 : Hid ((((w.alloc (PB 3 n d r l b g k)).alloc (oB 4 N D V)).alloc (PB 0 0 0 0 0 0 0 0)).heap[w.heap.size + 1]? = some (oB 4 N D V)) := row_on (al_at (w.alloc (PB 3 n d r l b g k)) _ (by simp)) (alP _ _)
  have HZ0 : Hid ((((w.alloc (PB 3 n d r l b g k)).alloc (oB 4 N D V)).alloc (PB 0 0 0 0 0 0 0 0)).heap[w.heap.size + 1 + 1]? = some (PB 0 0 0 0 0 0 0 0)) := al_at ((w.alloc (PB 3 n d r l b g k)).alloc (oB 4 N D V)) _ (by simp)
  have p0 := box8_cells HP0.out
  have o0 := box4_cells HO0.out
  go_enter Tryz.func52, Tryz.ntmps52
  go_wp2_with fail
  refine (KP.out _).mono ?_
  rintro e w1 ⟨rfl, hb1⟩
  have HB1 := bq HB0 hb1
  have HP1 : Hid (w1.heap[w.heap.size]? = some (PB 3 n d r l b g k)) := row_on HP0.out hb1
  have HO1 : Hid (w1.heap[w.heap.size + 1]? = some (oB 4 N D V)) := row_on HO0.out hb1
  have HZ1 : Hid (w1.heap[w.heap.size + 1 + 1]? = some (PB 0 0 0 0 0 0 0 0)) := row_on HZ0.out hb1
  have p1 := box8_cells HP1.out
  have o1 := box4_cells HO1.out
  have z1 := box8_cells HZ1.out
  clear hb1 HB0 HP0 HO0 HZ0 p0 o0
  go_wp2_with fail
  refine (KO.out _).mono ?_
  rintro e w2 ⟨rfl, hb2⟩
  have HB2 := bq HB1 hb2
  have HP2 : Hid (w2.heap[w.heap.size]? = some (PB 3 n d r l b g k)) := row_on HP1.out hb2
  have HO2 : Hid (w2.heap[w.heap.size + 1]? = some (oB 4 N D V)) := row_on HO1.out hb2
  have HZ2 : Hid (w2.heap[w.heap.size + 1 + 1]? = some (PB 0 0 0 0 0 0 0 0)) := row_on HZ1.out hb2
  have p2 := box8_cells HP2.out
  have o2 := box4_cells HO2.out
  have z2 := box8_cells HZ2.out
  have hl2 := row_lt HZ2.out
  clear hb2 HB1 HP1 HO1 HZ1 p1 o1 z1
  have HN2 : Hid ((w2.alloc (PB 0 0 0 0 0 0 0 0)).heap[w2.heap.size]? = some (PB 0 0 0 0 0 0 0 0)) := heap_new w2 _
  have HPa : Hid ((w2.alloc (PB 0 0 0 0 0 0 0 0)).heap[w.heap.size]? = some (PB 3 n d r l b g k)) := row_on HP2.out (alP _ _)
  have HOa : Hid ((w2.alloc (PB 0 0 0 0 0 0 0 0)).heap[w.heap.size + 1]? = some (oB 4 N D V)) := row_on HO2.out (alP _ _)
  have HZa : Hid ((w2.alloc (PB 0 0 0 0 0 0 0 0)).heap[w.heap.size + 1 + 1]? = some (PB 0 0 0 0 0 0 0 0)) := row_on HZ2.out (alP _ _)
  have HBa : Hid (Below w.heap.size w (w2.alloc (PB 0 0 0 0 0 0 0 0))) := bel_on (Nat.le_refl _) HB2.out (alP _ _)
  go_wp2_with (refine listStoreP rfl rfl _ _ _ rfl rfl w2.heap.size (3) (n) (d) (r) (l) (b) (g) (k) rfl rfl HN2.out ?_)
  intro w3 hr3 ho3 hs3 hB3
  have hl3 : w.heap.size ≤ w2.heap.size := by omega
  have HB3 : Hid (Below w.heap.size w w3) := hB3 _ _ hl3 HBa.out
  have HN3 : Hid (w3.heap[w2.heap.size]? = some (PB 3 n d r l b g k)) := hr3
  have HP3 : Hid (w3.heap[w.heap.size]? = some (PB 3 n d r l b g k)) := (ho3 _ (by omega)).trans HPa.out
  have HO3 : Hid (w3.heap[w.heap.size + 1]? = some (oB 4 N D V)) := (ho3 _ (by omega)).trans HOa.out
  have HZ3 : Hid (w3.heap[w.heap.size + 1 + 1]? = some (PB 0 0 0 0 0 0 0 0)) := (ho3 _ (by omega)).trans HZa.out
  have p3 := box8_cells HP3.out
  have o3 := box4_cells HO3.out
  have n3 := box8_cells HN3.out
  clear hr3 ho3 hs3 hB3 HN2 HPa HOa HZa HBa HP2 HO2 HZ2 HB2 p2 o2 z2
  go_upto_region 24 with fail
  go_wp2_with (refine listStoreC rfl rfl _ _ _ rfl rfl w2.heap.size 0 (k) rfl rfl HN3.out (by simp) ?_)
  intro w30 hr ho hs hB
  have HB30 : Hid (Below w.heap.size w w30) := hB _ _ hl3 HB3.out
  have HN30 : Hid (w30.heap[w2.heap.size]? = some (PB k n d r l b g k)) := hr
  have HP30 : Hid (w30.heap[w.heap.size]? = some (PB 3 n d r l b g k)) := (ho _ (by omega)).trans HP3.out
  have HO30 : Hid (w30.heap[w.heap.size + 1]? = some (oB 4 N D V)) := (ho _ (by omega)).trans HO3.out
  have HZ30 : Hid (w30.heap[w.heap.size + 1 + 1]? = some (PB 0 0 0 0 0 0 0 0)) := (ho _ (by omega)).trans HZ3.out
  have p30 := box8_cells HP30.out
  have o30 := box4_cells HO30.out
  have n30 := box8_cells HN30.out
  clear hr ho hs hB HB3 HN3 HP3 HO3 HZ3 p3 o3 n3
  go_upto_region 25 with fail
  go_wp2_with (refine listStoreC rfl rfl _ _ _ rfl rfl w2.heap.size 7 (0) rfl rfl HN30.out (by simp) ?_)
  intro w31 hr ho hs hB
  have HB31 : Hid (Below w.heap.size w w31) := hB _ _ hl3 HB30.out
  have HN31 : Hid (w31.heap[w2.heap.size]? = some (PB k n d r l b g 0)) := hr
  have HP31 : Hid (w31.heap[w.heap.size]? = some (PB 3 n d r l b g k)) := (ho _ (by omega)).trans HP30.out
  have HO31 : Hid (w31.heap[w.heap.size + 1]? = some (oB 4 N D V)) := (ho _ (by omega)).trans HO30.out
  have HZ31 : Hid (w31.heap[w.heap.size + 1 + 1]? = some (PB 0 0 0 0 0 0 0 0)) := (ho _ (by omega)).trans HZ30.out
  have p31 := box8_cells HP31.out
  have o31 := box4_cells HO31.out
  have n31 := box8_cells HN31.out
  clear hr ho hs hB HB30 HN30 HP30 HO30 HZ30 p30 o30 n30
  have HB4 : Hid (Below w.heap.size w w31) := HB31.out
  have HZ4 : Hid (w31.heap[w.heap.size + 1 + 1]? = some (PB 0 0 0 0 0 0 0 0)) := HZ31.out
  go_upto_region 31 with fail
  go_wp2_with (refine listStoreP rfl rfl _ _ _ rfl rfl (w.heap.size + 1 + 1) (k) (n) (d) (r) (l) (b) (g) (0) rfl rfl HZ4.out ?_)
  intro w9 hr9 ho9 hs9 hB9
  have HF : Hid (Below w.heap.size w w9) := hB9 _ _ (le2 _) HB4.out
  have HRf : Hid (w9.heap[w.heap.size + 1 + 1]? = some (PB k n d r l b g 0)) := hr9
  clear ho9 hs9 hB9 hr9
  obtain ⟨⟨q0, q1, q2, q3, q4, q5, q6, q7⟩, _⟩ := box8_cells HRf.out
  go_wp2
  refine bodyPost_ret (v := .tuple #[PV k n d r l b g 0, .bool true]) (by simp only [results, Tryz.results52]; simp [go_sem, q0, q1, q2, q3, q4, q5, q6, q7]) rfl ⟨by rw [HT.out]; rfl, HF.out⟩
end Go.Proofs.YtfhhnelffldggaaGreatDoor
