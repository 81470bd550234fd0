/-
  What the states of the program's pump take.
-/
import Derived.Test.YtfhhnelffldggaaGreatDoorUqBA
import Derived.Great.BuildSlice
import Derived.Deep.CutBlock
set_option maxRecDepth 100000
set_option maxHeartbeats 16000000
namespace Go.Proofs.YtfhhnelffldggaaGreatDoor
open Go.RowKit Go.PlainAid
set_option linter.unusedVariables false
set_option linter.unusedSimpArgs false
theorem stdI (s n d r l b g k K N D V : Int)  (w : World) : Calls Tryz.prog 175 #[PV s n d r l b g k, .agg #[.int .i64 K, .int .i64 N, .int .i64 D, .int .i64 V]] w fun e w' => e = .returned (PV 1 N D 0 V b g k) ∧ Below w.heap.size w w' := by
  have HB0 : Hid (Below w.heap.size w (((w.alloc (PB s n d r l b g k)).alloc (oB K N D V)).alloc (PB 0 0 0 0 0 0 0 0))) := bel_on (Nat.le_refl _) (bel_on (Nat.le_refl _) (alP _ _) (alP _ _)) (alP _ _)
  have HP0 : Hid ((((w.alloc (PB s n d r l b g k)).alloc (oB K N D V)).alloc (PB 0 0 0 0 0 0 0 0)).heap[w.heap.size]? = some (PB s n d r l b g k)) := row_on (row_on (heap_new w _) (alP _ _)) (alP _ _)
  have HO0 : Hid ((((w.alloc (PB s n d r l b g k)).alloc (oB K N D V)).alloc (PB 0 0 0 0 0 0 0 0)).heap[w.heap.size + 1]? = some (oB K N D V)) := row_on (al_at (w.alloc (PB s n d r l b g k)) _ (by simp)) (alP _ _)
  have HZ0 : Hid ((((w.alloc (PB s n d r l b g k)).alloc (oB K N D V)).alloc (PB 0 0 0 0 0 0 0 0)).heap[w.heap.size + 1 + 1]? = some (PB 0 0 0 0 0 0 0 0)) := al_at ((w.alloc (PB s n d r l b g k)).alloc (oB K N D V)) _ (by simp)
  have p0 := box8_cells HP0.out
  have o0 := box4_cells HO0.out
  go_enter Tryz.func175, Tryz.ntmps175
  go_wp2
  go_region
  clear HB0 HP0 HO0 HZ0 p0 o0
  have HB1 : Hid (Below w.heap.size w ((((w.alloc (PB 1 n d r V b g k)).alloc (oB K N D V)).alloc (PB 0 0 0 0 0 0 0 0)).drew)) := Below.drew (bel_on (Nat.le_refl _) (bel_on (Nat.le_refl _) (alP _ _) (alP _ _)) (alP _ _))
  have HP1 : Hid (((((w.alloc (PB 1 n d r V b g k)).alloc (oB K N D V)).alloc (PB 0 0 0 0 0 0 0 0)).drew).heap[w.heap.size]? = some (PB 1 n d r V b g k)) := (show (((w.alloc (PB 1 n d r V b g k)).alloc (oB K N D V)).alloc (PB 0 0 0 0 0 0 0 0)).heap[w.heap.size]? = some (PB 1 n d r V b g k) from row_on (row_on (heap_new w _) (alP _ _)) (alP _ _))
  have HO1 : Hid (((((w.alloc (PB 1 n d r V b g k)).alloc (oB K N D V)).alloc (PB 0 0 0 0 0 0 0 0)).drew).heap[w.heap.size + 1]? = some (oB K N D V)) := (show (((w.alloc (PB 1 n d r V b g k)).alloc (oB K N D V)).alloc (PB 0 0 0 0 0 0 0 0)).heap[w.heap.size + 1]? = some (oB K N D V) from row_on (al_at (w.alloc (PB 1 n d r V b g k)) _ (by simp)) (alP _ _))
  have HZ1 : Hid (((((w.alloc (PB 1 n d r V b g k)).alloc (oB K N D V)).alloc (PB 0 0 0 0 0 0 0 0)).drew).heap[w.heap.size + 1 + 1]? = some (PB 0 0 0 0 0 0 0 0)) := (show (((w.alloc (PB 1 n d r V b g k)).alloc (oB K N D V)).alloc (PB 0 0 0 0 0 0 0 0)).heap[w.heap.size + 1 + 1]? = some (PB 0 0 0 0 0 0 0 0) from al_at ((w.alloc (PB 1 n d r V b g k)).alloc (oB K N D V)) _ (by simp))
  have p1 := box8_cells HP1.out
  have o1 := box4_cells HO1.out
  go_wp2_with (refine listStoreR rfl rfl _ _ _ rfl rfl w.heap.size N D 0 rfl rfl HP1.out ?_)
  intro w2 hr ho hs hB
  have HB2 := hq (hB _ _ (Nat.le_refl _) HB1.out)
  have HP2 := hq hr
  have HZ2 := hq ((ho _ (by omega)).trans HZ1.out)
  have p2 := box8_cells HP2.out
  clear hr ho hs hB HB1 HP1 HO1 HZ1 p1 o1
  go_upto_region 3 with fail
  go_wp2_with (refine listStoreP rfl rfl _ _ _ rfl rfl (w.heap.size + 1 + 1) (1) (N) (D) (0) (V) (b) (g) (k) rfl rfl HZ2.out ?_)
  intro w99 hr9 ho9 hs9 hB9
  have HF := hq (hB9 _ _ (le2 _) HB2.out)
  obtain ⟨⟨q0, q1, q2, q3, q4, q5, q6, q7⟩, _⟩ := box8_cells hr9
  clear ho9 hs9 hB9 hr9
  go_wp2
  refine bodyPost_ret (v := PV 1 N D 0 V b g k) (by simp only [results, Tryz.results175]; simp [go_sem, q0, q1, q2, q3, q4, q5, q6, q7]) rfl ⟨rfl, HF.out⟩
theorem alwI_6 (s n d r l b g k N D V : Int)  (w : World) : Calls Tryz.prog 171 #[PV s n d r l b g k, .agg #[.int .i64 6, .int .i64 N, .int .i64 D, .int .i64 V]] w fun e w' => e = .returned (.tuple #[PV 0 n d r 0 0 g 0, .bool true]) ∧ Below w.heap.size w w' := by
  have HB0 : Hid (Below w.heap.size w (((w.alloc (PB s n d r l b g k)).alloc (oB 6 N D V)).alloc (PB 0 0 0 0 0 0 0 0))) := bel_on (Nat.le_refl _) (bel_on (Nat.le_refl _) (alP _ _) (alP _ _)) (alP _ _)
  have HP0 : Hid ((((w.alloc (PB s n d r l b g k)).alloc (oB 6 N D V)).alloc (PB 0 0 0 0 0 0 0 0)).heap[w.heap.size]? = some (PB s n d r l b g k)) := row_on (row_on (heap_new w _) (alP _ _)) (alP _ _)
  have HO0 : Hid ((((w.alloc (PB s n d r l b g k)).alloc (oB 6 N D V)).alloc (PB 0 0 0 0 0 0 0 0)).heap[w.heap.size + 1]? = some (oB 6 N D V)) := row_on (al_at (w.alloc (PB s n d r l b g k)) _ (by simp)) (alP _ _)
  have HZ0 : Hid ((((w.alloc (PB s n d r l b g k)).alloc (oB 6 N D V)).alloc (PB 0 0 0 0 0 0 0 0)).heap[w.heap.size + 1 + 1]? = some (PB 0 0 0 0 0 0 0 0)) := al_at ((w.alloc (PB s n d r l b g k)).alloc (oB 6 N D V)) _ (by simp)
  have p0 := box8_cells HP0.out
  have o0 := box4_cells HO0.out
  go_enter Tryz.func171, Tryz.ntmps171
  go_wp2_with (refine listStoreC rfl rfl _ _ _ rfl rfl w.heap.size 0 (0) rfl rfl HP0.out (by simp) ?_)
  intro w1 hr ho hs hB
  have HB1 := hq (hB _ _ (Nat.le_refl _) HB0.out)
  have HP1 := hq hr
  have HO1 := hq ((ho _ (by omega)).trans HO0.out)
  have HZ1 := hq ((ho _ (by omega)).trans HZ0.out)
  have p1 := box8_cells HP1.out
  have o1 := box4_cells HO1.out
  clear hr ho hs hB HB0 HP0 HO0 HZ0 p0 o0
  go_wp2_with (refine listStoreC rfl rfl _ _ _ rfl rfl w.heap.size 4 (0) rfl rfl HP1.out (by simp) ?_)
  intro w2 hr ho hs hB
  have HB2 := hq (hB _ _ (Nat.le_refl _) HB1.out)
  have HP2 := hq hr
  have HO2 := hq ((ho _ (by omega)).trans HO1.out)
  have HZ2 := hq ((ho _ (by omega)).trans HZ1.out)
  have p2 := box8_cells HP2.out
  have o2 := box4_cells HO2.out
  clear hr ho hs hB HB1 HP1 HO1 HZ1 p1 o1
  go_wp2_with (refine listStoreC rfl rfl _ _ _ rfl rfl w.heap.size 5 (0) rfl rfl HP2.out (by simp) ?_)
  intro w3 hr ho hs hB
  have HB3 := hq (hB _ _ (Nat.le_refl _) HB2.out)
  have HP3 := hq hr
  have HO3 := hq ((ho _ (by omega)).trans HO2.out)
  have HZ3 := hq ((ho _ (by omega)).trans HZ2.out)
  have p3 := box8_cells HP3.out
  have o3 := box4_cells HO3.out
  clear hr ho hs hB HB2 HP2 HO2 HZ2 p2 o2
  go_wp2_with (refine listStoreC rfl rfl _ _ _ rfl rfl w.heap.size 7 (0) rfl rfl HP3.out (by simp) ?_)
  intro w4 hr ho hs hB
  have HB4 := hq (hB _ _ (Nat.le_refl _) HB3.out)
  have HP4 := hq hr
  have HO4 := hq ((ho _ (by omega)).trans HO3.out)
  have HZ4 := hq ((ho _ (by omega)).trans HZ3.out)
  have p4 := box8_cells HP4.out
  have o4 := box4_cells HO4.out
  clear hr ho hs hB HB3 HP3 HO3 HZ3 p3 o3
  go_upto_region 4 with fail
  go_wp2_with (refine listStoreP rfl rfl _ _ _ rfl rfl (w.heap.size + 1 + 1) (0) (n) (d) (r) (0) (0) (g) (0) rfl rfl HZ4.out ?_)
  intro w99 hr9 ho9 hs9 hB9
  have HF := hq (hB9 _ _ (le2 _) HB4.out)
  obtain ⟨⟨q0, q1, q2, q3, q4, q5, q6, q7⟩, _⟩ := box8_cells hr9
  clear ho9 hs9 hB9 hr9
  go_wp2
  refine bodyPost_ret (v := .tuple #[PV 0 n d r 0 0 g 0, .bool true]) (by simp only [results, Tryz.results171]; simp [go_sem, q0, q1, q2, q3, q4, q5, q6, q7]) rfl ⟨rfl, HF.out⟩
theorem alwI_n (s n d r l b g k K N D V : Int) (h6 : (K != 6) = true) (w : World) : Calls Tryz.prog 171 #[PV s n d r l b g k, .agg #[.int .i64 K, .int .i64 N, .int .i64 D, .int .i64 V]] w fun e w' => e = .returned (.tuple #[PV s n d r l b g k, .bool false]) ∧ Below w.heap.size w w' := by
  have HB0 : Hid (Below w.heap.size w (((w.alloc (PB s n d r l b g k)).alloc (oB K N D V)).alloc (PB 0 0 0 0 0 0 0 0))) := bel_on (Nat.le_refl _) (bel_on (Nat.le_refl _) (alP _ _) (alP _ _)) (alP _ _)
  have HP0 : Hid ((((w.alloc (PB s n d r l b g k)).alloc (oB K N D V)).alloc (PB 0 0 0 0 0 0 0 0)).heap[w.heap.size]? = some (PB s n d r l b g k)) := row_on (row_on (heap_new w _) (alP _ _)) (alP _ _)
  have HO0 : Hid ((((w.alloc (PB s n d r l b g k)).alloc (oB K N D V)).alloc (PB 0 0 0 0 0 0 0 0)).heap[w.heap.size + 1]? = some (oB K N D V)) := row_on (al_at (w.alloc (PB s n d r l b g k)) _ (by simp)) (alP _ _)
  have HZ0 : Hid ((((w.alloc (PB s n d r l b g k)).alloc (oB K N D V)).alloc (PB 0 0 0 0 0 0 0 0)).heap[w.heap.size + 1 + 1]? = some (PB 0 0 0 0 0 0 0 0)) := al_at ((w.alloc (PB s n d r l b g k)).alloc (oB K N D V)) _ (by simp)
  have p0 := box8_cells HP0.out
  have o0 := box4_cells HO0.out
  go_enter Tryz.func171, Tryz.ntmps171
  go_upto_region 2 with fail
  go_wp2_with (refine listStoreP rfl rfl _ _ _ rfl rfl (w.heap.size + 1 + 1) (s) (n) (d) (r) (l) (b) (g) (k) rfl rfl HZ0.out ?_)
  intro w99 hr9 ho9 hs9 hB9
  have HF := hq (hB9 _ _ (le2 _) HB0.out)
  obtain ⟨⟨q0, q1, q2, q3, q4, q5, q6, q7⟩, _⟩ := box8_cells hr9
  clear ho9 hs9 hB9 hr9
  go_wp2
  refine bodyPost_ret (v := .tuple #[PV s n d r l b g k, .bool false]) (by simp only [results, Tryz.results171]; simp [go_sem, q0, q1, q2, q3, q4, q5, q6, q7]) rfl ⟨rfl, HF.out⟩
theorem wbI_0 (s n d r l g k K N D V : Int)  (w : World) : Calls Tryz.prog 170 #[PV s n d r l 0 g k, .agg #[.int .i64 K, .int .i64 N, .int .i64 D, .int .i64 V]] w fun e w' => e = .returned (.tuple #[PV s n d r l V g k, .bool true]) ∧ Below w.heap.size w w' := by
  have HB0 : Hid (Below w.heap.size w (((w.alloc (PB s n d r l 0 g k)).alloc (oB K N D V)).alloc (PB 0 0 0 0 0 0 0 0))) := bel_on (Nat.le_refl _) (bel_on (Nat.le_refl _) (alP _ _) (alP _ _)) (alP _ _)
  have HP0 : Hid ((((w.alloc (PB s n d r l 0 g k)).alloc (oB K N D V)).alloc (PB 0 0 0 0 0 0 0 0)).heap[w.heap.size]? = some (PB s n d r l 0 g k)) := row_on (row_on (heap_new w _) (alP _ _)) (alP _ _)
  have HO0 : Hid ((((w.alloc (PB s n d r l 0 g k)).alloc (oB K N D V)).alloc (PB 0 0 0 0 0 0 0 0)).heap[w.heap.size + 1]? = some (oB K N D V)) := row_on (al_at (w.alloc (PB s n d r l 0 g k)) _ (by simp)) (alP _ _)
  have HZ0 : Hid ((((w.alloc (PB s n d r l 0 g k)).alloc (oB K N D V)).alloc (PB 0 0 0 0 0 0 0 0)).heap[w.heap.size + 1 + 1]? = some (PB 0 0 0 0 0 0 0 0)) := al_at ((w.alloc (PB s n d r l 0 g k)).alloc (oB K N D V)) _ (by simp)
  have p0 := box8_cells HP0.out
  have o0 := box4_cells HO0.out
  go_enter Tryz.func170, Tryz.ntmps170
  go_wp2_with (refine listStoreC rfl rfl _ _ _ rfl rfl w.heap.size 5 (V) rfl rfl HP0.out (by simp) ?_)
  intro w1 hr ho hs hB
  have HB1 := hq (hB _ _ (Nat.le_refl _) HB0.out)
  have HP1 := hq hr
  have HO1 := hq ((ho _ (by omega)).trans HO0.out)
  have HZ1 := hq ((ho _ (by omega)).trans HZ0.out)
  have p1 := box8_cells HP1.out
  have o1 := box4_cells HO1.out
  clear hr ho hs hB HB0 HP0 HO0 HZ0 p0 o0
  go_upto_region 4 with fail
  go_wp2_with (refine listStoreP rfl rfl _ _ _ rfl rfl (w.heap.size + 1 + 1) (s) (n) (d) (r) (l) (V) (g) (k) rfl rfl HZ1.out ?_)
  intro w99 hr9 ho9 hs9 hB9
  have HF := hq (hB9 _ _ (le2 _) HB1.out)
  obtain ⟨⟨q0, q1, q2, q3, q4, q5, q6, q7⟩, _⟩ := box8_cells hr9
  clear ho9 hs9 hB9 hr9
  go_wp2
  refine bodyPost_ret (v := .tuple #[PV s n d r l V g k, .bool true]) (by simp only [results, Tryz.results170]; simp [go_sem, q0, q1, q2, q3, q4, q5, q6, q7]) rfl ⟨rfl, HF.out⟩
theorem wbI_n (s n d r l b g k K N D V : Int) (hb0 : (b != 0) = true) (w : World) : Calls Tryz.prog 170 #[PV s n d r l b g k, .agg #[.int .i64 K, .int .i64 N, .int .i64 D, .int .i64 V]] w fun e w' => e = .returned (.tuple #[PV s n d r l b g k, .bool false]) ∧ Below w.heap.size w w' := by
  have HB0 : Hid (Below w.heap.size w (((w.alloc (PB s n d r l b g k)).alloc (oB K N D V)).alloc (PB 0 0 0 0 0 0 0 0))) := bel_on (Nat.le_refl _) (bel_on (Nat.le_refl _) (alP _ _) (alP _ _)) (alP _ _)
  have HP0 : Hid ((((w.alloc (PB s n d r l b g k)).alloc (oB K N D V)).alloc (PB 0 0 0 0 0 0 0 0)).heap[w.heap.size]? = some (PB s n d r l b g k)) := row_on (row_on (heap_new w _) (alP _ _)) (alP _ _)
  have HO0 : Hid ((((w.alloc (PB s n d r l b g k)).alloc (oB K N D V)).alloc (PB 0 0 0 0 0 0 0 0)).heap[w.heap.size + 1]? = some (oB K N D V)) := row_on (al_at (w.alloc (PB s n d r l b g k)) _ (by simp)) (alP _ _)
  have HZ0 : Hid ((((w.alloc (PB s n d r l b g k)).alloc (oB K N D V)).alloc (PB 0 0 0 0 0 0 0 0)).heap[w.heap.size + 1 + 1]? = some (PB 0 0 0 0 0 0 0 0)) := al_at ((w.alloc (PB s n d r l b g k)).alloc (oB K N D V)) _ (by simp)
  have p0 := box8_cells HP0.out
  have o0 := box4_cells HO0.out
  go_enter Tryz.func170, Tryz.ntmps170
  go_upto_region 2 with fail
  go_wp2_with (refine listStoreP rfl rfl _ _ _ rfl rfl (w.heap.size + 1 + 1) (s) (n) (d) (r) (l) (b) (g) (k) rfl rfl HZ0.out ?_)
  intro w99 hr9 ho9 hs9 hB9
  have HF := hq (hB9 _ _ (le2 _) HB0.out)
  obtain ⟨⟨q0, q1, q2, q3, q4, q5, q6, q7⟩, _⟩ := box8_cells hr9
  clear ho9 hs9 hB9 hr9
  go_wp2
  refine bodyPost_ret (v := .tuple #[PV s n d r l b g k, .bool false]) (by simp only [results, Tryz.results170]; simp [go_sem, q0, q1, q2, q3, q4, q5, q6, q7]) rfl ⟨rfl, HF.out⟩
theorem runI_2 (s n d r l b g k N D V : Int) {z0 z1 z2 z3 z4 z5 z6 z7 : Int} {y : Bool} (KT : Hid (∀ w, Calls Tryz.prog 170 #[PV s n d r l b g k, .agg #[.int .i64 2, .int .i64 N, .int .i64 D, .int .i64 V]] w fun e w' => e = .returned (.tuple #[PV z0 z1 z2 z3 z4 z5 z6 z7, .bool y]) ∧ Below w.heap.size w w')) (w : World) : Calls Tryz.prog 133 #[PV s n d r l b g k, .agg #[.int .i64 2, .int .i64 N, .int .i64 D, .int .i64 V]] w fun e w' => e = .returned (.tuple #[PV z0 z1 z2 z3 z4 z5 z6 z7, .bool y]) ∧ Below w.heap.size w w' := by
  have HB0 : Hid (Below w.heap.size w (((w.alloc (PB s n d r l b g k)).alloc (oB 2 N D V)).alloc (PB 0 0 0 0 0 0 0 0))) := bel_on (Nat.le_refl _) (bel_on (Nat.le_refl _) (alP _ _) (alP _ _)) (alP _ _)
  have HP0 : Hid ((((w.alloc (PB s n d r l b g k)).alloc (oB 2 N D V)).alloc (PB 0 0 0 0 0 0 0 0)).heap[w.heap.size]? = some (PB s n d r l b g k)) := row_on (row_on (heap_new w _) (alP _ _)) (alP _ _)
  have HO0 : Hid ((((w.alloc (PB s n d r l b g k)).alloc (oB 2 N D V)).alloc (PB 0 0 0 0 0 0 0 0)).heap[w.heap.size + 1]? = some (oB 2 N D V)) := row_on (al_at (w.alloc (PB s n d r l b g k)) _ (by simp)) (alP _ _)
  have HZ0 : Hid ((((w.alloc (PB s n d r l b g k)).alloc (oB 2 N D V)).alloc (PB 0 0 0 0 0 0 0 0)).heap[w.heap.size + 1 + 1]? = some (PB 0 0 0 0 0 0 0 0)) := al_at ((w.alloc (PB s n d r l b g k)).alloc (oB 2 N D V)) _ (by simp)
  have p0 := box8_cells HP0.out
  have o0 := box4_cells HO0.out
  go_enter Tryz.func133, Tryz.ntmps133
  go_wp2_with fail
  refine Calls.mono (KT.out _) ?_
  rintro e w1 ⟨rfl, hb⟩
  have HB1 := bq HB0 hb
  have HP1 := rq HP0 hb
  have HO1 := rq HO0 hb
  have HZ1 := rq HZ0 hb
  have p1 := box8_cells HP1.out
  have o1 := box4_cells HO1.out
  clear hb HB0 HP0 HO0 HZ0 p0 o0
  go_wp2_with (refine listStoreP rfl rfl _ _ _ rfl rfl (w.heap.size + 1 + 1) (z0) (z1) (z2) (z3) (z4) (z5) (z6) (z7) rfl rfl HZ1.out ?_)
  intro w99 hr9 ho9 hs9 hB9
  have HF := hq (hB9 _ _ (le2 _) HB1.out)
  obtain ⟨⟨q0, q1, q2, q3, q4, q5, q6, q7⟩, _⟩ := box8_cells hr9
  clear ho9 hs9 hB9 hr9
  go_wp2
  refine bodyPost_ret (v := .tuple #[PV z0 z1 z2 z3 z4 z5 z6 z7, .bool y]) (by simp only [results, Tryz.results133]; simp [go_sem, q0, q1, q2, q3, q4, q5, q6, q7]) rfl ⟨rfl, HF.out⟩
theorem runI_3 (s n d r l b g k N D V : Int)  (w : World) : Calls Tryz.prog 133 #[PV s n d r l b g k, .agg #[.int .i64 3, .int .i64 N, .int .i64 D, .int .i64 V]] w fun e w' => e = .returned (.tuple #[PV 3 n d r l b g s, .bool true]) ∧ Below w.heap.size w w' := by
  have HB0 : Hid (Below w.heap.size w (((w.alloc (PB s n d r l b g k)).alloc (oB 3 N D V)).alloc (PB 0 0 0 0 0 0 0 0))) := bel_on (Nat.le_refl _) (bel_on (Nat.le_refl _) (alP _ _) (alP _ _)) (alP _ _)
  have HP0 : Hid ((((w.alloc (PB s n d r l b g k)).alloc (oB 3 N D V)).alloc (PB 0 0 0 0 0 0 0 0)).heap[w.heap.size]? = some (PB s n d r l b g k)) := row_on (row_on (heap_new w _) (alP _ _)) (alP _ _)
  have HO0 : Hid ((((w.alloc (PB s n d r l b g k)).alloc (oB 3 N D V)).alloc (PB 0 0 0 0 0 0 0 0)).heap[w.heap.size + 1]? = some (oB 3 N D V)) := row_on (al_at (w.alloc (PB s n d r l b g k)) _ (by simp)) (alP _ _)
  have HZ0 : Hid ((((w.alloc (PB s n d r l b g k)).alloc (oB 3 N D V)).alloc (PB 0 0 0 0 0 0 0 0)).heap[w.heap.size + 1 + 1]? = some (PB 0 0 0 0 0 0 0 0)) := al_at ((w.alloc (PB s n d r l b g k)).alloc (oB 3 N D V)) _ (by simp)
  have p0 := box8_cells HP0.out
  have o0 := box4_cells HO0.out
  go_enter Tryz.func133, Tryz.ntmps133
  go_wp2_with (refine listStoreC rfl rfl _ _ _ rfl rfl w.heap.size 0 (3) rfl rfl HP0.out (by simp) ?_)
  intro w1 hr ho hs hB
  have HB1 := hq (hB _ _ (Nat.le_refl _) HB0.out)
  have HP1 := hq hr
  have HO1 := hq ((ho _ (by omega)).trans HO0.out)
  have HZ1 := hq ((ho _ (by omega)).trans HZ0.out)
  have p1 := box8_cells HP1.out
  have o1 := box4_cells HO1.out
  clear hr ho hs hB HB0 HP0 HO0 HZ0 p0 o0
  go_wp2_with (refine listStoreC rfl rfl _ _ _ rfl rfl w.heap.size 7 (s) rfl rfl HP1.out (by simp) ?_)
  intro w2 hr ho hs hB
  have HB2 := hq (hB _ _ (Nat.le_refl _) HB1.out)
  have HP2 := hq hr
  have HO2 := hq ((ho _ (by omega)).trans HO1.out)
  have HZ2 := hq ((ho _ (by omega)).trans HZ1.out)
  have p2 := box8_cells HP2.out
  have o2 := box4_cells HO2.out
  clear hr ho hs hB HB1 HP1 HO1 HZ1 p1 o1
  go_upto_region 6 with fail
  go_wp2_with (refine listStoreP rfl rfl _ _ _ rfl rfl (w.heap.size + 1 + 1) (3) (n) (d) (r) (l) (b) (g) (s) rfl rfl HZ2.out ?_)
  intro w99 hr9 ho9 hs9 hB9
  have HF := hq (hB9 _ _ (le2 _) HB2.out)
  obtain ⟨⟨q0, q1, q2, q3, q4, q5, q6, q7⟩, _⟩ := box8_cells hr9
  clear ho9 hs9 hB9 hr9
  go_wp2
  refine bodyPost_ret (v := .tuple #[PV 3 n d r l b g s, .bool true]) (by simp only [results, Tryz.results133]; simp [go_sem, q0, q1, q2, q3, q4, q5, q6, q7]) rfl ⟨rfl, HF.out⟩
theorem runI_n (s n d r l b g k K N D V : Int) (h2 : (K == 2) = false) (h3 : (K == 3) = false) {z0 z1 z2 z3 z4 z5 z6 z7 : Int} {y : Bool} (KT : Hid (∀ w, Calls Tryz.prog 171 #[PV s n d r l b g k, .agg #[.int .i64 K, .int .i64 N, .int .i64 D, .int .i64 V]] w fun e w' => e = .returned (.tuple #[PV z0 z1 z2 z3 z4 z5 z6 z7, .bool y]) ∧ Below w.heap.size w w')) (w : World) : Calls Tryz.prog 133 #[PV s n d r l b g k, .agg #[.int .i64 K, .int .i64 N, .int .i64 D, .int .i64 V]] w fun e w' => e = .returned (.tuple #[PV z0 z1 z2 z3 z4 z5 z6 z7, .bool y]) ∧ Below w.heap.size w w' := by
  have HB0 : Hid (Below w.heap.size w (((w.alloc (PB s n d r l b g k)).alloc (oB K N D V)).alloc (PB 0 0 0 0 0 0 0 0))) := bel_on (Nat.le_refl _) (bel_on (Nat.le_refl _) (alP _ _) (alP _ _)) (alP _ _)
  have HP0 : Hid ((((w.alloc (PB s n d r l b g k)).alloc (oB K N D V)).alloc (PB 0 0 0 0 0 0 0 0)).heap[w.heap.size]? = some (PB s n d r l b g k)) := row_on (row_on (heap_new w _) (alP _ _)) (alP _ _)
  have HO0 : Hid ((((w.alloc (PB s n d r l b g k)).alloc (oB K N D V)).alloc (PB 0 0 0 0 0 0 0 0)).heap[w.heap.size + 1]? = some (oB K N D V)) := row_on (al_at (w.alloc (PB s n d r l b g k)) _ (by simp)) (alP _ _)
  have HZ0 : Hid ((((w.alloc (PB s n d r l b g k)).alloc (oB K N D V)).alloc (PB 0 0 0 0 0 0 0 0)).heap[w.heap.size + 1 + 1]? = some (PB 0 0 0 0 0 0 0 0)) := al_at ((w.alloc (PB s n d r l b g k)).alloc (oB K N D V)) _ (by simp)
  have p0 := box8_cells HP0.out
  have o0 := box4_cells HO0.out
  go_enter Tryz.func133, Tryz.ntmps133
  go_wp2_with fail
  refine Calls.mono (KT.out _) ?_
  rintro e w1 ⟨rfl, hb⟩
  have HB1 := bq HB0 hb
  have HP1 := rq HP0 hb
  have HO1 := rq HO0 hb
  have HZ1 := rq HZ0 hb
  have p1 := box8_cells HP1.out
  have o1 := box4_cells HO1.out
  clear hb HB0 HP0 HO0 HZ0 p0 o0
  go_wp2_with (refine listStoreP rfl rfl _ _ _ rfl rfl (w.heap.size + 1 + 1) (z0) (z1) (z2) (z3) (z4) (z5) (z6) (z7) rfl rfl HZ1.out ?_)
  intro w99 hr9 ho9 hs9 hB9
  have HF := hq (hB9 _ _ (le2 _) HB1.out)
  obtain ⟨⟨q0, q1, q2, q3, q4, q5, q6, q7⟩, _⟩ := box8_cells hr9
  clear ho9 hs9 hB9 hr9
  go_wp2
  refine bodyPost_ret (v := .tuple #[PV z0 z1 z2 z3 z4 z5 z6 z7, .bool y]) (by simp only [results, Tryz.results133]; simp [go_sem, q0, q1, q2, q3, q4, q5, q6, q7]) rfl ⟨rfl, HF.out⟩
theorem kepI_1 (s n d r l b g k N D V : Int) {z0 z1 z2 z3 z4 z5 z6 z7 : Int} (KT : Hid (∀ w, Calls Tryz.prog 175 #[PV s n d r l b g k, .agg #[.int .i64 1, .int .i64 N, .int .i64 D, .int .i64 V]] w fun e w' => e = .returned (PV z0 z1 z2 z3 z4 z5 z6 z7) ∧ Below w.heap.size w w')) (w : World) : Calls Tryz.prog 136 #[PV s n d r l b g k, .agg #[.int .i64 1, .int .i64 N, .int .i64 D, .int .i64 V]] w fun e w' => e = .returned (.tuple #[PV z0 z1 z2 z3 z4 z5 z6 z7, .bool true]) ∧ Below w.heap.size w w' := by
  have HB0 : Hid (Below w.heap.size w (((w.alloc (PB s n d r l b g k)).alloc (oB 1 N D V)).alloc (PB 0 0 0 0 0 0 0 0))) := bel_on (Nat.le_refl _) (bel_on (Nat.le_refl _) (alP _ _) (alP _ _)) (alP _ _)
  have HP0 : Hid ((((w.alloc (PB s n d r l b g k)).alloc (oB 1 N D V)).alloc (PB 0 0 0 0 0 0 0 0)).heap[w.heap.size]? = some (PB s n d r l b g k)) := row_on (row_on (heap_new w _) (alP _ _)) (alP _ _)
  have HO0 : Hid ((((w.alloc (PB s n d r l b g k)).alloc (oB 1 N D V)).alloc (PB 0 0 0 0 0 0 0 0)).heap[w.heap.size + 1]? = some (oB 1 N D V)) := row_on (al_at (w.alloc (PB s n d r l b g k)) _ (by simp)) (alP _ _)
  have HZ0 : Hid ((((w.alloc (PB s n d r l b g k)).alloc (oB 1 N D V)).alloc (PB 0 0 0 0 0 0 0 0)).heap[w.heap.size + 1 + 1]? = some (PB 0 0 0 0 0 0 0 0)) := al_at ((w.alloc (PB s n d r l b g k)).alloc (oB 1 N D V)) _ (by simp)
  have p0 := box8_cells HP0.out
  have o0 := box4_cells HO0.out
  go_enter Tryz.func136, Tryz.ntmps136
  go_wp2_with fail
  refine Calls.mono (KT.out _) ?_
  rintro e w1 ⟨rfl, hb⟩
  have HB1 := bq HB0 hb
  have HP1 := rq HP0 hb
  have HO1 := rq HO0 hb
  have HZ1 := rq HZ0 hb
  have p1 := box8_cells HP1.out
  have o1 := box4_cells HO1.out
  clear hb HB0 HP0 HO0 HZ0 p0 o0
  go_wp2_with (refine listStoreP rfl rfl _ _ _ rfl rfl (w.heap.size + 1 + 1) (z0) (z1) (z2) (z3) (z4) (z5) (z6) (z7) rfl rfl HZ1.out ?_)
  intro w99 hr9 ho9 hs9 hB9
  have HF := hq (hB9 _ _ (le2 _) HB1.out)
  obtain ⟨⟨q0, q1, q2, q3, q4, q5, q6, q7⟩, _⟩ := box8_cells hr9
  clear ho9 hs9 hB9 hr9
  go_wp2
  refine bodyPost_ret (v := .tuple #[PV z0 z1 z2 z3 z4 z5 z6 z7, .bool true]) (by simp only [results, Tryz.results136]; simp [go_sem, q0, q1, q2, q3, q4, q5, q6, q7]) rfl ⟨rfl, HF.out⟩
theorem kepI_n (s n d r l b g k K N D V : Int) (h1 : (K == 1) = false) {z0 z1 z2 z3 z4 z5 z6 z7 : Int} {y : Bool} (KT : Hid (∀ w, Calls Tryz.prog 133 #[PV s n d r l b g k, .agg #[.int .i64 K, .int .i64 N, .int .i64 D, .int .i64 V]] w fun e w' => e = .returned (.tuple #[PV z0 z1 z2 z3 z4 z5 z6 z7, .bool y]) ∧ Below w.heap.size w w')) (w : World) : Calls Tryz.prog 136 #[PV s n d r l b g k, .agg #[.int .i64 K, .int .i64 N, .int .i64 D, .int .i64 V]] w fun e w' => e = .returned (.tuple #[PV z0 z1 z2 z3 z4 z5 z6 z7, .bool y]) ∧ Below w.heap.size w w' := by
  have HB0 : Hid (Below w.heap.size w (((w.alloc (PB s n d r l b g k)).alloc (oB K N D V)).alloc (PB 0 0 0 0 0 0 0 0))) := bel_on (Nat.le_refl _) (bel_on (Nat.le_refl _) (alP _ _) (alP _ _)) (alP _ _)
  have HP0 : Hid ((((w.alloc (PB s n d r l b g k)).alloc (oB K N D V)).alloc (PB 0 0 0 0 0 0 0 0)).heap[w.heap.size]? = some (PB s n d r l b g k)) := row_on (row_on (heap_new w _) (alP _ _)) (alP _ _)
  have HO0 : Hid ((((w.alloc (PB s n d r l b g k)).alloc (oB K N D V)).alloc (PB 0 0 0 0 0 0 0 0)).heap[w.heap.size + 1]? = some (oB K N D V)) := row_on (al_at (w.alloc (PB s n d r l b g k)) _ (by simp)) (alP _ _)
  have HZ0 : Hid ((((w.alloc (PB s n d r l b g k)).alloc (oB K N D V)).alloc (PB 0 0 0 0 0 0 0 0)).heap[w.heap.size + 1 + 1]? = some (PB 0 0 0 0 0 0 0 0)) := al_at ((w.alloc (PB s n d r l b g k)).alloc (oB K N D V)) _ (by simp)
  have p0 := box8_cells HP0.out
  have o0 := box4_cells HO0.out
  go_enter Tryz.func136, Tryz.ntmps136
  go_wp2_with fail
  refine Calls.mono (KT.out _) ?_
  rintro e w1 ⟨rfl, hb⟩
  have HB1 := bq HB0 hb
  have HP1 := rq HP0 hb
  have HO1 := rq HO0 hb
  have HZ1 := rq HZ0 hb
  have p1 := box8_cells HP1.out
  have o1 := box4_cells HO1.out
  clear hb HB0 HP0 HO0 HZ0 p0 o0
  go_wp2_with (refine listStoreP rfl rfl _ _ _ rfl rfl (w.heap.size + 1 + 1) (z0) (z1) (z2) (z3) (z4) (z5) (z6) (z7) rfl rfl HZ1.out ?_)
  intro w99 hr9 ho9 hs9 hB9
  have HF := hq (hB9 _ _ (le2 _) HB1.out)
  obtain ⟨⟨q0, q1, q2, q3, q4, q5, q6, q7⟩, _⟩ := box8_cells hr9
  clear ho9 hs9 hB9 hr9
  go_wp2
  refine bodyPost_ret (v := .tuple #[PV z0 z1 z2 z3 z4 z5 z6 z7, .bool y]) (by simp only [results, Tryz.results136]; simp [go_sem, q0, q1, q2, q3, q4, q5, q6, q7]) rfl ⟨rfl, HF.out⟩
theorem idlI_1 (s n d r l b g k N D V : Int) {z0 z1 z2 z3 z4 z5 z6 z7 : Int} (KT : Hid (∀ w, Calls Tryz.prog 175 #[PV s n d r l b g k, .agg #[.int .i64 1, .int .i64 N, .int .i64 D, .int .i64 V]] w fun e w' => e = .returned (PV z0 z1 z2 z3 z4 z5 z6 z7) ∧ Below w.heap.size w w')) (w : World) : Calls Tryz.prog 142 #[PV s n d r l b g k, .agg #[.int .i64 1, .int .i64 N, .int .i64 D, .int .i64 V]] w fun e w' => e = .returned (.tuple #[PV z0 z1 z2 z3 z4 z5 z6 z7, .bool true]) ∧ Below w.heap.size w w' := by
  have HB0 : Hid (Below w.heap.size w (((w.alloc (PB s n d r l b g k)).alloc (oB 1 N D V)).alloc (PB 0 0 0 0 0 0 0 0))) := bel_on (Nat.le_refl _) (bel_on (Nat.le_refl _) (alP _ _) (alP _ _)) (alP _ _)
  have HP0 : Hid ((((w.alloc (PB s n d r l b g k)).alloc (oB 1 N D V)).alloc (PB 0 0 0 0 0 0 0 0)).heap[w.heap.size]? = some (PB s n d r l b g k)) := row_on (row_on (heap_new w _) (alP _ _)) (alP _ _)
  have HO0 : Hid ((((w.alloc (PB s n d r l b g k)).alloc (oB 1 N D V)).alloc (PB 0 0 0 0 0 0 0 0)).heap[w.heap.size + 1]? = some (oB 1 N D V)) := row_on (al_at (w.alloc (PB s n d r l b g k)) _ (by simp)) (alP _ _)
  have HZ0 : Hid ((((w.alloc (PB s n d r l b g k)).alloc (oB 1 N D V)).alloc (PB 0 0 0 0 0 0 0 0)).heap[w.heap.size + 1 + 1]? = some (PB 0 0 0 0 0 0 0 0)) := al_at ((w.alloc (PB s n d r l b g k)).alloc (oB 1 N D V)) _ (by simp)
  have p0 := box8_cells HP0.out
  have o0 := box4_cells HO0.out
  go_enter Tryz.func142, Tryz.ntmps142
  go_wp2_with fail
  refine Calls.mono (KT.out _) ?_
  rintro e w1 ⟨rfl, hb⟩
  have HB1 := bq HB0 hb
  have HP1 := rq HP0 hb
  have HO1 := rq HO0 hb
  have HZ1 := rq HZ0 hb
  have p1 := box8_cells HP1.out
  have o1 := box4_cells HO1.out
  clear hb HB0 HP0 HO0 HZ0 p0 o0
  go_wp2_with (refine listStoreP rfl rfl _ _ _ rfl rfl (w.heap.size + 1 + 1) (z0) (z1) (z2) (z3) (z4) (z5) (z6) (z7) rfl rfl HZ1.out ?_)
  intro w99 hr9 ho9 hs9 hB9
  have HF := hq (hB9 _ _ (le2 _) HB1.out)
  obtain ⟨⟨q0, q1, q2, q3, q4, q5, q6, q7⟩, _⟩ := box8_cells hr9
  clear ho9 hs9 hB9 hr9
  go_wp2
  refine bodyPost_ret (v := .tuple #[PV z0 z1 z2 z3 z4 z5 z6 z7, .bool true]) (by simp only [results, Tryz.results142]; simp [go_sem, q0, q1, q2, q3, q4, q5, q6, q7]) rfl ⟨rfl, HF.out⟩
theorem idlI_n (s n d r l b g k K N D V : Int) (h1 : (K == 1) = false) {z0 z1 z2 z3 z4 z5 z6 z7 : Int} {y : Bool} (KT : Hid (∀ w, Calls Tryz.prog 171 #[PV s n d r l b g k, .agg #[.int .i64 K, .int .i64 N, .int .i64 D, .int .i64 V]] w fun e w' => e = .returned (.tuple #[PV z0 z1 z2 z3 z4 z5 z6 z7, .bool y]) ∧ Below w.heap.size w w')) (w : World) : Calls Tryz.prog 142 #[PV s n d r l b g k, .agg #[.int .i64 K, .int .i64 N, .int .i64 D, .int .i64 V]] w fun e w' => e = .returned (.tuple #[PV z0 z1 z2 z3 z4 z5 z6 z7, .bool y]) ∧ Below w.heap.size w w' := by
  have HB0 : Hid (Below w.heap.size w (((w.alloc (PB s n d r l b g k)).alloc (oB K N D V)).alloc (PB 0 0 0 0 0 0 0 0))) := bel_on (Nat.le_refl _) (bel_on (Nat.le_refl _) (alP _ _) (alP _ _)) (alP _ _)
  have HP0 : Hid ((((w.alloc (PB s n d r l b g k)).alloc (oB K N D V)).alloc (PB 0 0 0 0 0 0 0 0)).heap[w.heap.size]? = some (PB s n d r l b g k)) := row_on (row_on (heap_new w _) (alP _ _)) (alP _ _)
  have HO0 : Hid ((((w.alloc (PB s n d r l b g k)).alloc (oB K N D V)).alloc (PB 0 0 0 0 0 0 0 0)).heap[w.heap.size + 1]? = some (oB K N D V)) := row_on (al_at (w.alloc (PB s n d r l b g k)) _ (by simp)) (alP _ _)
  have HZ0 : Hid ((((w.alloc (PB s n d r l b g k)).alloc (oB K N D V)).alloc (PB 0 0 0 0 0 0 0 0)).heap[w.heap.size + 1 + 1]? = some (PB 0 0 0 0 0 0 0 0)) := al_at ((w.alloc (PB s n d r l b g k)).alloc (oB K N D V)) _ (by simp)
  have p0 := box8_cells HP0.out
  have o0 := box4_cells HO0.out
  go_enter Tryz.func142, Tryz.ntmps142
  go_wp2_with fail
  refine Calls.mono (KT.out _) ?_
  rintro e w1 ⟨rfl, hb⟩
  have HB1 := bq HB0 hb
  have HP1 := rq HP0 hb
  have HO1 := rq HO0 hb
  have HZ1 := rq HZ0 hb
  have p1 := box8_cells HP1.out
  have o1 := box4_cells HO1.out
  clear hb HB0 HP0 HO0 HZ0 p0 o0
  go_wp2_with (refine listStoreP rfl rfl _ _ _ rfl rfl (w.heap.size + 1 + 1) (z0) (z1) (z2) (z3) (z4) (z5) (z6) (z7) rfl rfl HZ1.out ?_)
  intro w99 hr9 ho9 hs9 hB9
  have HF := hq (hB9 _ _ (le2 _) HB1.out)
  obtain ⟨⟨q0, q1, q2, q3, q4, q5, q6, q7⟩, _⟩ := box8_cells hr9
  clear ho9 hs9 hB9 hr9
  go_wp2
  refine bodyPost_ret (v := .tuple #[PV z0 z1 z2 z3 z4 z5 z6 z7, .bool y]) (by simp only [results, Tryz.results142]; simp [go_sem, q0, q1, q2, q3, q4, q5, q6, q7]) rfl ⟨rfl, HF.out⟩
theorem pauI_4 (s n d r l b g k N D V : Int)  (w : World) : Calls Tryz.prog 139 #[PV s n d r l b g k, .agg #[.int .i64 4, .int .i64 N, .int .i64 D, .int .i64 V]] w fun e w' => e = .returned (.tuple #[PV k n d r l b g 0, .bool true]) ∧ Below w.heap.size w w' := by
  have HB0 : Hid (Below w.heap.size w (((w.alloc (PB s n d r l b g k)).alloc (oB 4 N D V)).alloc (PB 0 0 0 0 0 0 0 0))) := bel_on (Nat.le_refl _) (bel_on (Nat.le_refl _) (alP _ _) (alP _ _)) (alP _ _)
  have HP0 : Hid ((((w.alloc (PB s n d r l b g k)).alloc (oB 4 N D V)).alloc (PB 0 0 0 0 0 0 0 0)).heap[w.heap.size]? = some (PB s n d r l b g k)) := row_on (row_on (heap_new w _) (alP _ _)) (alP _ _)
  have HO0 : Hid ((((w.alloc (PB s n d r l b g k)).alloc (oB 4 N D V)).alloc (PB 0 0 0 0 0 0 0 0)).heap[w.heap.size + 1]? = some (oB 4 N D V)) := row_on (al_at (w.alloc (PB s n d r l b g k)) _ (by simp)) (alP _ _)
  have HZ0 : Hid ((((w.alloc (PB s n d r l b g k)).alloc (oB 4 N D V)).alloc (PB 0 0 0 0 0 0 0 0)).heap[w.heap.size + 1 + 1]? = some (PB 0 0 0 0 0 0 0 0)) := al_at ((w.alloc (PB s n d r l b g k)).alloc (oB 4 N D V)) _ (by simp)
  have p0 := box8_cells HP0.out
  have o0 := box4_cells HO0.out
  go_enter Tryz.func139, Tryz.ntmps139
  go_wp2_with (refine listStoreC rfl rfl _ _ _ rfl rfl w.heap.size 0 (k) rfl rfl HP0.out (by simp) ?_)
  intro w1 hr ho hs hB
  have HB1 := hq (hB _ _ (Nat.le_refl _) HB0.out)
  have HP1 := hq hr
  have HO1 := hq ((ho _ (by omega)).trans HO0.out)
  have HZ1 := hq ((ho _ (by omega)).trans HZ0.out)
  have p1 := box8_cells HP1.out
  have o1 := box4_cells HO1.out
  clear hr ho hs hB HB0 HP0 HO0 HZ0 p0 o0
  go_wp2_with (refine listStoreC rfl rfl _ _ _ rfl rfl w.heap.size 7 (0) rfl rfl HP1.out (by simp) ?_)
  intro w2 hr ho hs hB
  have HB2 := hq (hB _ _ (Nat.le_refl _) HB1.out)
  have HP2 := hq hr
  have HO2 := hq ((ho _ (by omega)).trans HO1.out)
  have HZ2 := hq ((ho _ (by omega)).trans HZ1.out)
  have p2 := box8_cells HP2.out
  have o2 := box4_cells HO2.out
  clear hr ho hs hB HB1 HP1 HO1 HZ1 p1 o1
  go_upto_region 3 with fail
  go_wp2_with (refine listStoreP rfl rfl _ _ _ rfl rfl (w.heap.size + 1 + 1) (k) (n) (d) (r) (l) (b) (g) (0) rfl rfl HZ2.out ?_)
  intro w99 hr9 ho9 hs9 hB9
  have HF := hq (hB9 _ _ (le2 _) HB2.out)
  obtain ⟨⟨q0, q1, q2, q3, q4, q5, q6, q7⟩, _⟩ := box8_cells hr9
  clear ho9 hs9 hB9 hr9
  go_wp2
  refine bodyPost_ret (v := .tuple #[PV k n d r l b g 0, .bool true]) (by simp only [results, Tryz.results139]; simp [go_sem, q0, q1, q2, q3, q4, q5, q6, q7]) rfl ⟨rfl, HF.out⟩
theorem pauI_n (s n d r l b g k K N D V : Int) (h4 : (K == 4) = false) {z0 z1 z2 z3 z4 z5 z6 z7 : Int} {y : Bool} (KT : Hid (∀ w, Calls Tryz.prog 171 #[PV s n d r l b g k, .agg #[.int .i64 K, .int .i64 N, .int .i64 D, .int .i64 V]] w fun e w' => e = .returned (.tuple #[PV z0 z1 z2 z3 z4 z5 z6 z7, .bool y]) ∧ Below w.heap.size w w')) (w : World) : Calls Tryz.prog 139 #[PV s n d r l b g k, .agg #[.int .i64 K, .int .i64 N, .int .i64 D, .int .i64 V]] w fun e w' => e = .returned (.tuple #[PV z0 z1 z2 z3 z4 z5 z6 z7, .bool y]) ∧ Below w.heap.size w w' := by
  have HB0 : Hid (Below w.heap.size w (((w.alloc (PB s n d r l b g k)).alloc (oB K N D V)).alloc (PB 0 0 0 0 0 0 0 0))) := bel_on (Nat.le_refl _) (bel_on (Nat.le_refl _) (alP _ _) (alP _ _)) (alP _ _)
  have HP0 : Hid ((((w.alloc (PB s n d r l b g k)).alloc (oB K N D V)).alloc (PB 0 0 0 0 0 0 0 0)).heap[w.heap.size]? = some (PB s n d r l b g k)) := row_on (row_on (heap_new w _) (alP _ _)) (alP _ _)
  have HO0 : Hid ((((w.alloc (PB s n d r l b g k)).alloc (oB K N D V)).alloc (PB 0 0 0 0 0 0 0 0)).heap[w.heap.size + 1]? = some (oB K N D V)) := row_on (al_at (w.alloc (PB s n d r l b g k)) _ (by simp)) (alP _ _)
  have HZ0 : Hid ((((w.alloc (PB s n d r l b g k)).alloc (oB K N D V)).alloc (PB 0 0 0 0 0 0 0 0)).heap[w.heap.size + 1 + 1]? = some (PB 0 0 0 0 0 0 0 0)) := al_at ((w.alloc (PB s n d r l b g k)).alloc (oB K N D V)) _ (by simp)
  have p0 := box8_cells HP0.out
  have o0 := box4_cells HO0.out
  go_enter Tryz.func139, Tryz.ntmps139
  go_wp2_with fail
  refine Calls.mono (KT.out _) ?_
  rintro e w1 ⟨rfl, hb⟩
  have HB1 := bq HB0 hb
  have HP1 := rq HP0 hb
  have HO1 := rq HO0 hb
  have HZ1 := rq HZ0 hb
  have p1 := box8_cells HP1.out
  have o1 := box4_cells HO1.out
  clear hb HB0 HP0 HO0 HZ0 p0 o0
  go_wp2_with (refine listStoreP rfl rfl _ _ _ rfl rfl (w.heap.size + 1 + 1) (z0) (z1) (z2) (z3) (z4) (z5) (z6) (z7) rfl rfl HZ1.out ?_)
  intro w99 hr9 ho9 hs9 hB9
  have HF := hq (hB9 _ _ (le2 _) HB1.out)
  obtain ⟨⟨q0, q1, q2, q3, q4, q5, q6, q7⟩, _⟩ := box8_cells hr9
  clear ho9 hs9 hB9 hr9
  go_wp2
  refine bodyPost_ret (v := .tuple #[PV z0 z1 z2 z3 z4 z5 z6 z7, .bool y]) (by simp only [results, Tryz.results139]; simp [go_sem, q0, q1, q2, q3, q4, q5, q6, q7]) rfl ⟨rfl, HF.out⟩
end Go.Proofs.YtfhhnelffldggaaGreatDoor
