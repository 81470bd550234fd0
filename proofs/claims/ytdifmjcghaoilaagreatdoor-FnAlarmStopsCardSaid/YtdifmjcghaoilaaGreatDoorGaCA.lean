/-
  Small functions of the program's pump.
-/
import Derived.Test.YtdifmjcghaoilaaGreatDoorGaBO
import Derived.Laws.EntriesVeiled
import Derived.Great.BuildSlice
import Derived.Deep.CutBlock
namespace Go.Proofs.YtdifmjcghaoilaaGreatDoor
open Go.RowKit Go.PlainAid
set_option linter.unusedVariables false
set_option linter.unusedSimpArgs false

theorem intoI (l m n z : Int) (hz : min (max n l) m = z) (w : World) : Calls Tryz.prog 51 #[.agg #[.int .i64 l, .int .i64 m], .int .i64 n] w fun e w' => e = .returned (.int .i64 z) ∧ Below w.heap.size w w' := by
  by_cases h1 : l ≤ n
  · by_cases h2 : n ≤ m
    · obtain rfl : n = z := by omega
      clear hz
      go_enter Tryz.func51, Tryz.ntmps51
      go_wp2
      go_ret
      exact ⟨rfl, (Below.refl _ _).alloc (Nat.le_refl _) _⟩
    · obtain rfl : m = z := by omega
      clear hz
      go_enter Tryz.func51, Tryz.ntmps51
      go_wp2
      go_ret
      exact ⟨rfl, (Below.refl _ _).alloc (Nat.le_refl _) _⟩
  · by_cases h2 : l ≤ m
    · obtain rfl : l = z := by omega
      clear hz
      go_enter Tryz.func51, Tryz.ntmps51
      go_wp2
      go_ret
      exact ⟨rfl, (Below.refl _ _).alloc (Nat.le_refl _) _⟩
    · obtain rfl : m = z := by omega
      clear hz
      go_enter Tryz.func51, Tryz.ntmps51
      go_wp2
      go_ret
      exact ⟨rfl, (Below.refl _ _).alloc (Nat.le_refl _) _⟩
theorem bigI (w : World) : Calls Tryz.prog 50 #[] w fun e w' => e = .returned (.agg #[.int .i64 (-1000000000000), .int .i64 1000000000000]) ∧ Below w.heap.size w w' := by
  go_enter Tryz.func50, Tryz.ntmps50
  go_wp2
  refine bodyPost_ret (v := .agg #[.int .i64 (-1000000000000), .int .i64 1000000000000]) (by simp [results, Tryz.results50, go_sem]) rfl ⟨rfl, ?_⟩
  exact (Below.refl _ _).alloc (Nat.le_refl _) _
theorem bolI (s n d r l b g k z : Int) (hz : min b 3 = z) (w : World) : Calls Tryz.prog 107 #[PV s n d r l b g k] w fun e w' => e = .returned (.int .i64 z) ∧ Below w.heap.size w w' := by
  have HB0 : Hid (Below w.heap.size w (w.alloc (PB s n d r l b g k))) := alP _ _
  have HP0 : Hid ((w.alloc (PB s n d r l b g k)).heap[w.heap.size]? = some (PB s n d r l b g k)) := heap_new w _
  have p0 := box8_cells HP0.out
  by_cases h : b ≤ 3
  · obtain rfl : b = z := by omega
    have e1 : min b 3 = b := by omega
    clear hz
    go_enter Tryz.func107, Tryz.ntmps107
    go_wp2
    go_ret
    exact ⟨rfl, HB0.out⟩
  · obtain rfl : 3 = z := by omega
    have e1 : min b 3 = 3 := by omega
    clear hz
    go_enter Tryz.func107, Tryz.ntmps107
    go_wp2
    go_ret
    exact ⟨rfl, HB0.out⟩
theorem rtpI (s n d r l b g k r' y : Int) (KR : Hid (∀ w, Calls Tryz.prog 123 #[.agg #[.int .i64 n, .int .i64 d, .int .i64 r]] w fun e w' => e = .returned (.tuple #[.agg #[.int .i64 n, .int .i64 d, .int .i64 r'], .int .i64 y]) ∧ Below w.heap.size w w')) (w : World) : Calls Tryz.prog 106 #[PV s n d r l b g k] w fun e w' => e = .returned (.int .i64 y) ∧ Below w.heap.size w w' := by
  have HB0 : Hid (Below w.heap.size w (w.alloc (PB s n d r l b g k))) := alP _ _
  have HP0 : Hid ((w.alloc (PB s n d r l b g k)).heap[w.heap.size]? = some (PB s n d r l b g k)) := heap_new w _
  have p0 := box8_cells HP0.out
  go_enter Tryz.func106, Tryz.ntmps106
  go_wp2_with fail
  refine Calls.mono (KR.out _) ?_
  rintro e w1 ⟨rfl, hb1⟩
  have HB1 : Hid (Below w.heap.size w (w1.alloc (.cells #[.int .i64 n, .int .i64 d, .int .i64 r'] 25))) := bel_on (Nat.le_refl _) (bel_on (Nat.le_refl _) HB0.out hb1) (alP _ _)
  clear hb1
  go_wp2
  go_ret
  exact ⟨rfl, HB1.out⟩
theorem npI (s n d r l b g k : Int) (w : World) : Calls Tryz.prog 74 #[PV s n d r l b g k] w fun e w' => e = .returned (.int .i64 0) ∧ Below w.heap.size w w' := by
  have HB0 : Hid (Below w.heap.size w (w.alloc (PB s n d r l b g k))) := alP _ _
  have HP0 : Hid ((w.alloc (PB s n d r l b g k)).heap[w.heap.size]? = some (PB s n d r l b g k)) := heap_new w _
  have p0 := box8_cells HP0.out
  go_enter Tryz.func74, Tryz.ntmps74
  go_wp2
  go_ret
  exact ⟨rfl, HB0.out⟩
set_option maxRecDepth 100000 in
set_option maxHeartbeats 2000000 in
theorem nothI (s n d r l b g k a : Int) (w : World) : Calls Tryz.prog 75 #[PV s n d r l b g k, .int .i64 a] w fun e w' => e = .returned (PV s n d r l b g k) ∧ Below w.heap.size w w' := by
  have HB0 : Hid (Below w.heap.size w ((w.alloc (PB s n d r l b g k)).alloc (PB 0 0 0 0 0 0 0 0))) := bel_on (Nat.le_refl _) (alP _ _) (alP _ _)
  have HP0 : Hid (((w.alloc (PB s n d r l b g k)).alloc (PB 0 0 0 0 0 0 0 0)).heap[w.heap.size]? = some (PB s n d r l b g k)) := row_on (heap_new w _) (alP _ _)
  have HZ0 : Hid (((w.alloc (PB s n d r l b g k)).alloc (PB 0 0 0 0 0 0 0 0)).heap[w.heap.size + 1]? = some (PB 0 0 0 0 0 0 0 0)) := al_at (w.alloc (PB s n d r l b g k)) _ (by simp)
  have p0 := box8_cells HP0.out
  go_enter Tryz.func75, Tryz.ntmps75
  go_upto_region 1 with fail
  go_wp2_with (refine listStoreP rfl rfl _ _ _ rfl rfl (w.heap.size + 1) (s) (n) (d) (r) (l) (b) (g) (k) rfl rfl HZ0.out ?_)
  intro w99 hr9 ho9 hs9 hB9
  have HF : Hid (Below w.heap.size w w99) := hB9 _ _ (Nat.le_succ _) HB0.out
  obtain ⟨⟨q0, q1, q2, q3, q4, q5, q6, q7⟩, _⟩ := box8_cells hr9
  clear ho9 hs9 hB9 hr9
  go_wp2
  refine bodyPost_ret (v := PV s n d r l b g k) (by simp only [results, Tryz.results75]; simp [go_sem, q0, q1, q2, q3, q4, q5, q6, q7]) rfl ⟨rfl, HF.out⟩
set_option maxRecDepth 100000 in
set_option maxHeartbeats 2000000 in
theorem stI_0 (n d r l b g k : Int) (w : World) : Calls Tryz.prog 46 #[PV 0 n d r l b g k] w fun e w' => e = .returned (.agg #[.func (.func 76) #[.agg #[.int .i64 0, .int .i64 n, .int .i64 d, .int .i64 r, .int .i64 l, .int .i64 b, .int .i64 g, .int .i64 k]] #[], .func (.func 74) #[.agg #[.int .i64 0, .int .i64 n, .int .i64 d, .int .i64 r, .int .i64 l, .int .i64 b, .int .i64 g, .int .i64 k]] #[], .func (.func 75) #[.agg #[.int .i64 0, .int .i64 n, .int .i64 d, .int .i64 r, .int .i64 l, .int .i64 b, .int .i64 g, .int .i64 k]] #[]]) ∧ Below w.heap.size w w' := by
  have HB0 : Hid (Below w.heap.size w (w.alloc (PB 0 n d r l b g k))) := alP _ _
  have HP0 : Hid ((w.alloc (PB 0 n d r l b g k)).heap[w.heap.size]? = some (PB 0 n d r l b g k)) := heap_new w _
  have p0 := box8_cells HP0.out
  go_enter Tryz.func46, Tryz.ntmps46
  go_wp2
  refine bodyPost_ret (v := .agg #[.func (.func 76) #[.agg #[.int .i64 0, .int .i64 n, .int .i64 d, .int .i64 r, .int .i64 l, .int .i64 b, .int .i64 g, .int .i64 k]] #[], .func (.func 74) #[.agg #[.int .i64 0, .int .i64 n, .int .i64 d, .int .i64 r, .int .i64 l, .int .i64 b, .int .i64 g, .int .i64 k]] #[], .func (.func 75) #[.agg #[.int .i64 0, .int .i64 n, .int .i64 d, .int .i64 r, .int .i64 l, .int .i64 b, .int .i64 g, .int .i64 k]] #[]]) (by simp [results, Tryz.results46, go_sem]) rfl ⟨rfl, ?_⟩
  exact bel_on (Nat.le_refl _) HB0.out (alP _ _)
set_option maxRecDepth 100000 in
set_option maxHeartbeats 2000000 in
theorem stI_1 (n d r l b g k : Int) (w : World) : Calls Tryz.prog 46 #[PV 1 n d r l b g k] w fun e w' => e = .returned (.agg #[.func (.func 67) #[.agg #[.int .i64 1, .int .i64 n, .int .i64 d, .int .i64 r, .int .i64 l, .int .i64 b, .int .i64 g, .int .i64 k]] #[], .func (.func 68) #[.agg #[.int .i64 1, .int .i64 n, .int .i64 d, .int .i64 r, .int .i64 l, .int .i64 b, .int .i64 g, .int .i64 k]] #[], .func (.func 69) #[.agg #[.int .i64 1, .int .i64 n, .int .i64 d, .int .i64 r, .int .i64 l, .int .i64 b, .int .i64 g, .int .i64 k]] #[]]) ∧ Below w.heap.size w w' := by
  have HB0 : Hid (Below w.heap.size w (w.alloc (PB 1 n d r l b g k))) := alP _ _
  have HP0 : Hid ((w.alloc (PB 1 n d r l b g k)).heap[w.heap.size]? = some (PB 1 n d r l b g k)) := heap_new w _
  have p0 := box8_cells HP0.out
  go_enter Tryz.func46, Tryz.ntmps46
  go_wp2
  refine bodyPost_ret (v := .agg #[.func (.func 67) #[.agg #[.int .i64 1, .int .i64 n, .int .i64 d, .int .i64 r, .int .i64 l, .int .i64 b, .int .i64 g, .int .i64 k]] #[], .func (.func 68) #[.agg #[.int .i64 1, .int .i64 n, .int .i64 d, .int .i64 r, .int .i64 l, .int .i64 b, .int .i64 g, .int .i64 k]] #[], .func (.func 69) #[.agg #[.int .i64 1, .int .i64 n, .int .i64 d, .int .i64 r, .int .i64 l, .int .i64 b, .int .i64 g, .int .i64 k]] #[]]) (by simp [results, Tryz.results46, go_sem]) rfl ⟨rfl, ?_⟩
  exact bel_on (Nat.le_refl _) HB0.out (alP _ _)
set_option maxRecDepth 100000 in
set_option maxHeartbeats 2000000 in
theorem stI_2 (n d r l b g k : Int) (w : World) : Calls Tryz.prog 46 #[PV 2 n d r l b g k] w fun e w' => e = .returned (.agg #[.func (.func 70) #[.agg #[.int .i64 2, .int .i64 n, .int .i64 d, .int .i64 r, .int .i64 l, .int .i64 b, .int .i64 g, .int .i64 k]] #[], .func (.func 71) #[.agg #[.int .i64 2, .int .i64 n, .int .i64 d, .int .i64 r, .int .i64 l, .int .i64 b, .int .i64 g, .int .i64 k]] #[], .func (.func 72) #[.agg #[.int .i64 2, .int .i64 n, .int .i64 d, .int .i64 r, .int .i64 l, .int .i64 b, .int .i64 g, .int .i64 k]] #[]]) ∧ Below w.heap.size w w' := by
  have HB0 : Hid (Below w.heap.size w (w.alloc (PB 2 n d r l b g k))) := alP _ _
  have HP0 : Hid ((w.alloc (PB 2 n d r l b g k)).heap[w.heap.size]? = some (PB 2 n d r l b g k)) := heap_new w _
  have p0 := box8_cells HP0.out
  go_enter Tryz.func46, Tryz.ntmps46
  go_wp2
  refine bodyPost_ret (v := .agg #[.func (.func 70) #[.agg #[.int .i64 2, .int .i64 n, .int .i64 d, .int .i64 r, .int .i64 l, .int .i64 b, .int .i64 g, .int .i64 k]] #[], .func (.func 71) #[.agg #[.int .i64 2, .int .i64 n, .int .i64 d, .int .i64 r, .int .i64 l, .int .i64 b, .int .i64 g, .int .i64 k]] #[], .func (.func 72) #[.agg #[.int .i64 2, .int .i64 n, .int .i64 d, .int .i64 r, .int .i64 l, .int .i64 b, .int .i64 g, .int .i64 k]] #[]]) (by simp [results, Tryz.results46, go_sem]) rfl ⟨rfl, ?_⟩
  exact bel_on (Nat.le_refl _) HB0.out (alP _ _)
set_option maxRecDepth 100000 in
set_option maxHeartbeats 2000000 in
theorem stI_3 (n d r l b g k : Int) (w : World) : Calls Tryz.prog 46 #[PV 3 n d r l b g k] w fun e w' => e = .returned (.agg #[.func (.func 73) #[.agg #[.int .i64 3, .int .i64 n, .int .i64 d, .int .i64 r, .int .i64 l, .int .i64 b, .int .i64 g, .int .i64 k]] #[], .func (.func 74) #[.agg #[.int .i64 3, .int .i64 n, .int .i64 d, .int .i64 r, .int .i64 l, .int .i64 b, .int .i64 g, .int .i64 k]] #[], .func (.func 75) #[.agg #[.int .i64 3, .int .i64 n, .int .i64 d, .int .i64 r, .int .i64 l, .int .i64 b, .int .i64 g, .int .i64 k]] #[]]) ∧ Below w.heap.size w w' := by
  have HB0 : Hid (Below w.heap.size w (w.alloc (PB 3 n d r l b g k))) := alP _ _
  have HP0 : Hid ((w.alloc (PB 3 n d r l b g k)).heap[w.heap.size]? = some (PB 3 n d r l b g k)) := heap_new w _
  have p0 := box8_cells HP0.out
  go_enter Tryz.func46, Tryz.ntmps46
  go_wp2
  refine bodyPost_ret (v := .agg #[.func (.func 73) #[.agg #[.int .i64 3, .int .i64 n, .int .i64 d, .int .i64 r, .int .i64 l, .int .i64 b, .int .i64 g, .int .i64 k]] #[], .func (.func 74) #[.agg #[.int .i64 3, .int .i64 n, .int .i64 d, .int .i64 r, .int .i64 l, .int .i64 b, .int .i64 g, .int .i64 k]] #[], .func (.func 75) #[.agg #[.int .i64 3, .int .i64 n, .int .i64 d, .int .i64 r, .int .i64 l, .int .i64 b, .int .i64 g, .int .i64 k]] #[]]) (by simp [results, Tryz.results46, go_sem]) rfl ⟨rfl, ?_⟩
  exact bel_on (Nat.le_refl _) HB0.out (alP _ _)
end Go.Proofs.YtdifmjcghaoilaaGreatDoor

namespace Go.Proofs.YtdifmjcghaoilaaGreatDoor
open Go.RowKit Go.PlainAid
set_option linter.unusedVariables false
set_option linter.unusedSimpArgs false

set_option maxRecDepth 100000 in
set_option maxHeartbeats 4000000 in
theorem stdI (s n d r l b g k K N D V : Int)  (w : World) : Calls Tryz.prog 109 #[PV s n d r l b g k, .agg #[.int .i64 K, .int .i64 N, .int .i64 D, .int .i64 V]] w fun e w' => e = .returned (PV 1 N D 0 V b g k) ∧ Below w.heap.size w w' := by
  have HB0 : Hid (Below w.heap.size w (((w.alloc (PB s n d r l b g k)).alloc (.cells #[.int .i64 K, .int .i64 N, .int .i64 D, .int .i64 V] 82)).alloc (PB 0 0 0 0 0 0 0 0))) := bel_on (Nat.le_refl _) (bel_on (Nat.le_refl _) (alP _ _) (alP _ _)) (alP _ _)
  have HP0 : Hid ((((w.alloc (PB s n d r l b g k)).alloc (.cells #[.int .i64 K, .int .i64 N, .int .i64 D, .int .i64 V] 82)).alloc (PB 0 0 0 0 0 0 0 0)).heap[w.heap.size]? = some (PB s n d r l b g k)) := row_on (row_on (heap_new w _) (alP _ _)) (alP _ _)
  have HO0 : Hid ((((w.alloc (PB s n d r l b g k)).alloc (.cells #[.int .i64 K, .int .i64 N, .int .i64 D, .int .i64 V] 82)).alloc (PB 0 0 0 0 0 0 0 0)).heap[w.heap.size + 1]? = some (.cells #[.int .i64 K, .int .i64 N, .int .i64 D, .int .i64 V] 82)) := row_on (al_at (w.alloc (PB s n d r l b g k)) _ (by simp)) (alP _ _)
  have HZ0 : Hid ((((w.alloc (PB s n d r l b g k)).alloc (.cells #[.int .i64 K, .int .i64 N, .int .i64 D, .int .i64 V] 82)).alloc (PB 0 0 0 0 0 0 0 0)).heap[w.heap.size + 1 + 1]? = some (PB 0 0 0 0 0 0 0 0)) := al_at ((w.alloc (PB s n d r l b g k)).alloc (.cells #[.int .i64 K, .int .i64 N, .int .i64 D, .int .i64 V] 82)) _ (by simp)
  have p0 := box8_cells HP0.out
  have o0 := box4_cells HO0.out
  go_enter Tryz.func109, Tryz.ntmps109
  go_wp2
  go_region
  clear HB0 HP0 HO0 HZ0 p0 o0
  have HB1 : Hid (Below w.heap.size w ((((w.alloc (PB 1 n d r V b g k)).alloc (.cells #[.int .i64 K, .int .i64 N, .int .i64 D, .int .i64 V] 82)).alloc (PB 0 0 0 0 0 0 0 0)).drew)) := Below.drew (bel_on (Nat.le_refl _) (bel_on (Nat.le_refl _) (alP _ _) (alP _ _)) (alP _ _))
  have HP1 : Hid (((((w.alloc (PB 1 n d r V b g k)).alloc (.cells #[.int .i64 K, .int .i64 N, .int .i64 D, .int .i64 V] 82)).alloc (PB 0 0 0 0 0 0 0 0)).drew).heap[w.heap.size]? = some (PB 1 n d r V b g k)) := (show (((w.alloc (PB 1 n d r V b g k)).alloc (.cells #[.int .i64 K, .int .i64 N, .int .i64 D, .int .i64 V] 82)).alloc (PB 0 0 0 0 0 0 0 0)).heap[w.heap.size]? = some (PB 1 n d r V b g k) from row_on (row_on (heap_new w _) (alP _ _)) (alP _ _))
  have HO1 : Hid (((((w.alloc (PB 1 n d r V b g k)).alloc (.cells #[.int .i64 K, .int .i64 N, .int .i64 D, .int .i64 V] 82)).alloc (PB 0 0 0 0 0 0 0 0)).drew).heap[w.heap.size + 1]? = some (.cells #[.int .i64 K, .int .i64 N, .int .i64 D, .int .i64 V] 82)) := (show (((w.alloc (PB 1 n d r V b g k)).alloc (.cells #[.int .i64 K, .int .i64 N, .int .i64 D, .int .i64 V] 82)).alloc (PB 0 0 0 0 0 0 0 0)).heap[w.heap.size + 1]? = some (.cells #[.int .i64 K, .int .i64 N, .int .i64 D, .int .i64 V] 82) from row_on (al_at (w.alloc (PB 1 n d r V b g k)) _ (by simp)) (alP _ _))
  have HZ1 : Hid (((((w.alloc (PB 1 n d r V b g k)).alloc (.cells #[.int .i64 K, .int .i64 N, .int .i64 D, .int .i64 V] 82)).alloc (PB 0 0 0 0 0 0 0 0)).drew).heap[w.heap.size + 1 + 1]? = some (PB 0 0 0 0 0 0 0 0)) := (show (((w.alloc (PB 1 n d r V b g k)).alloc (.cells #[.int .i64 K, .int .i64 N, .int .i64 D, .int .i64 V] 82)).alloc (PB 0 0 0 0 0 0 0 0)).heap[w.heap.size + 1 + 1]? = some (PB 0 0 0 0 0 0 0 0) from al_at ((w.alloc (PB 1 n d r V b g k)).alloc (.cells #[.int .i64 K, .int .i64 N, .int .i64 D, .int .i64 V] 82)) _ (by simp))
  have p1 := box8_cells HP1.out
  have o1 := box4_cells HO1.out
  go_wp2_with (refine listStoreR rfl rfl _ _ _ rfl rfl w.heap.size N D 0 rfl rfl HP1.out ?_)
  intro w2 hr ho hs hB
  have HB2 : Hid (Below w.heap.size w w2) := hB _ _ (Nat.le_refl _) HB1.out
  have HP2 : Hid (w2.heap[w.heap.size]? = some (PB 1 N D 0 V b g k)) := hr
  have HZ2 : Hid (w2.heap[w.heap.size + 1 + 1]? = some (PB 0 0 0 0 0 0 0 0)) := (ho _ (by omega)).trans HZ1.out
  have p2 := box8_cells HP2.out
  clear hr ho hs hB HB1 HP1 HO1 HZ1 p1 o1
  go_upto_region 3 with fail
  go_wp2_with (refine listStoreP rfl rfl _ _ _ rfl rfl (w.heap.size + 1 + 1) (1) (N) (D) (0) (V) (b) (g) (k) rfl rfl HZ2.out ?_)
  intro w99 hr9 ho9 hs9 hB9
  have HF : Hid (Below w.heap.size w w99) := hB9 _ _ (le2 _) HB2.out
  obtain ⟨⟨q0, q1, q2, q3, q4, q5, q6, q7⟩, _⟩ := box8_cells hr9
  clear ho9 hs9 hB9 hr9
  go_wp2
  refine bodyPost_ret (v := PV 1 N D 0 V b g k) (by simp only [results, Tryz.results109]; simp [go_sem, q0, q1, q2, q3, q4, q5, q6, q7]) rfl ⟨rfl, HF.out⟩
set_option maxRecDepth 100000 in
set_option maxHeartbeats 4000000 in
theorem alwI_6 (s n d r l b g k N D V : Int)  (w : World) : Calls Tryz.prog 105 #[PV s n d r l b g k, .agg #[.int .i64 6, .int .i64 N, .int .i64 D, .int .i64 V]] w fun e w' => e = .returned (.tuple #[PV 0 n d r 0 0 g 0, .bool true]) ∧ Below w.heap.size w w' := by
  have HB0 : Hid (Below w.heap.size w (((w.alloc (PB s n d r l b g k)).alloc (.cells #[.int .i64 6, .int .i64 N, .int .i64 D, .int .i64 V] 82)).alloc (PB 0 0 0 0 0 0 0 0))) := bel_on (Nat.le_refl _) (bel_on (Nat.le_refl _) (alP _ _) (alP _ _)) (alP _ _)
  have HP0 : Hid ((((w.alloc (PB s n d r l b g k)).alloc (.cells #[.int .i64 6, .int .i64 N, .int .i64 D, .int .i64 V] 82)).alloc (PB 0 0 0 0 0 0 0 0)).heap[w.heap.size]? = some (PB s n d r l b g k)) := row_on (row_on (heap_new w _) (alP _ _)) (alP _ _)
  have HO0 : Hid ((((w.alloc (PB s n d r l b g k)).alloc (.cells #[.int .i64 6, .int .i64 N, .int .i64 D, .int .i64 V] 82)).alloc (PB 0 0 0 0 0 0 0 0)).heap[w.heap.size + 1]? = some (.cells #[.int .i64 6, .int .i64 N, .int .i64 D, .int .i64 V] 82)) := row_on (al_at (w.alloc (PB s n d r l b g k)) _ (by simp)) (alP _ _)
  have HZ0 : Hid ((((w.alloc (PB s n d r l b g k)).alloc (.cells #[.int .i64 6, .int .i64 N, .int .i64 D, .int .i64 V] 82)).alloc (PB 0 0 0 0 0 0 0 0)).heap[w.heap.size + 1 + 1]? = some (PB 0 0 0 0 0 0 0 0)) := al_at ((w.alloc (PB s n d r l b g k)).alloc (.cells #[.int .i64 6, .int .i64 N, .int .i64 D, .int .i64 V] 82)) _ (by simp)
  have p0 := box8_cells HP0.out
  have o0 := box4_cells HO0.out
  go_enter Tryz.func105, Tryz.ntmps105
  go_wp2_with (refine listStoreC rfl rfl _ _ _ rfl rfl w.heap.size 0 (0) rfl rfl HP0.out (by simp) ?_)
  intro w1 hr ho hs hB
  have HB1 : Hid (Below w.heap.size w w1) := hB _ _ (Nat.le_refl _) HB0.out
  have HP1 : Hid (w1.heap[w.heap.size]? = some (PB 0 n d r l b g k)) := hr
  have HO1 : Hid (w1.heap[w.heap.size + 1]? = some (.cells #[.int .i64 6, .int .i64 N, .int .i64 D, .int .i64 V] 82)) := (ho _ (by omega)).trans HO0.out
  have HZ1 : Hid (w1.heap[w.heap.size + 1 + 1]? = some (PB 0 0 0 0 0 0 0 0)) := (ho _ (by omega)).trans HZ0.out
  have p1 := box8_cells HP1.out
  have o1 := box4_cells HO1.out
  clear hr ho hs hB HB0 HP0 HO0 HZ0 p0 o0
  go_wp2_with (refine listStoreC rfl rfl _ _ _ rfl rfl w.heap.size 4 (0) rfl rfl HP1.out (by simp) ?_)
  intro w2 hr ho hs hB
  have HB2 : Hid (Below w.heap.size w w2) := hB _ _ (Nat.le_refl _) HB1.out
  have HP2 : Hid (w2.heap[w.heap.size]? = some (PB 0 n d r 0 b g k)) := hr
  have HO2 : Hid (w2.heap[w.heap.size + 1]? = some (.cells #[.int .i64 6, .int .i64 N, .int .i64 D, .int .i64 V] 82)) := (ho _ (by omega)).trans HO1.out
  have HZ2 : Hid (w2.heap[w.heap.size + 1 + 1]? = some (PB 0 0 0 0 0 0 0 0)) := (ho _ (by omega)).trans HZ1.out
  have p2 := box8_cells HP2.out
  have o2 := box4_cells HO2.out
  clear hr ho hs hB HB1 HP1 HO1 HZ1 p1 o1
  go_wp2_with (refine listStoreC rfl rfl _ _ _ rfl rfl w.heap.size 5 (0) rfl rfl HP2.out (by simp) ?_)
  intro w3 hr ho hs hB
  have HB3 : Hid (Below w.heap.size w w3) := hB _ _ (Nat.le_refl _) HB2.out
  have HP3 : Hid (w3.heap[w.heap.size]? = some (PB 0 n d r 0 0 g k)) := hr
  have HO3 : Hid (w3.heap[w.heap.size + 1]? = some (.cells #[.int .i64 6, .int .i64 N, .int .i64 D, .int .i64 V] 82)) := (ho _ (by omega)).trans HO2.out
  have HZ3 : Hid (w3.heap[w.heap.size + 1 + 1]? = some (PB 0 0 0 0 0 0 0 0)) := (ho _ (by omega)).trans HZ2.out
  have p3 := box8_cells HP3.out
  have o3 := box4_cells HO3.out
  clear hr ho hs hB HB2 HP2 HO2 HZ2 p2 o2
  go_wp2_with (refine listStoreC rfl rfl _ _ _ rfl rfl w.heap.size 7 (0) rfl rfl HP3.out (by simp) ?_)
  intro w4 hr ho hs hB
  have HB4 : Hid (Below w.heap.size w w4) := hB _ _ (Nat.le_refl _) HB3.out
  have HP4 : Hid (w4.heap[w.heap.size]? = some (PB 0 n d r 0 0 g 0)) := hr
  have HO4 : Hid (w4.heap[w.heap.size + 1]? = some (.cells #[.int .i64 6, .int .i64 N, .int .i64 D, .int .i64 V] 82)) := (ho _ (by omega)).trans HO3.out
  have HZ4 : Hid (w4.heap[w.heap.size + 1 + 1]? = some (PB 0 0 0 0 0 0 0 0)) := (ho _ (by omega)).trans HZ3.out
  have p4 := box8_cells HP4.out
  have o4 := box4_cells HO4.out
  clear hr ho hs hB HB3 HP3 HO3 HZ3 p3 o3
  go_upto_region 4 with fail
  go_wp2_with (refine listStoreP rfl rfl _ _ _ rfl rfl (w.heap.size + 1 + 1) (0) (n) (d) (r) (0) (0) (g) (0) rfl rfl HZ4.out ?_)
  intro w99 hr9 ho9 hs9 hB9
  have HF : Hid (Below w.heap.size w w99) := hB9 _ _ (le2 _) HB4.out
  obtain ⟨⟨q0, q1, q2, q3, q4, q5, q6, q7⟩, _⟩ := box8_cells hr9
  clear ho9 hs9 hB9 hr9
  go_wp2
  refine bodyPost_ret (v := .tuple #[PV 0 n d r 0 0 g 0, .bool true]) (by simp only [results, Tryz.results105]; simp [go_sem, q0, q1, q2, q3, q4, q5, q6, q7]) rfl ⟨rfl, HF.out⟩
set_option maxRecDepth 100000 in
set_option maxHeartbeats 4000000 in
theorem alwI_n (s n d r l b g k K N D V : Int) (h6 : (K != 6) = true) (w : World) : Calls Tryz.prog 105 #[PV s n d r l b g k, .agg #[.int .i64 K, .int .i64 N, .int .i64 D, .int .i64 V]] w fun e w' => e = .returned (.tuple #[PV s n d r l b g k, .bool false]) ∧ Below w.heap.size w w' := by
  have HB0 : Hid (Below w.heap.size w (((w.alloc (PB s n d r l b g k)).alloc (.cells #[.int .i64 K, .int .i64 N, .int .i64 D, .int .i64 V] 82)).alloc (PB 0 0 0 0 0 0 0 0))) := bel_on (Nat.le_refl _) (bel_on (Nat.le_refl _) (alP _ _) (alP _ _)) (alP _ _)
  have HP0 : Hid ((((w.alloc (PB s n d r l b g k)).alloc (.cells #[.int .i64 K, .int .i64 N, .int .i64 D, .int .i64 V] 82)).alloc (PB 0 0 0 0 0 0 0 0)).heap[w.heap.size]? = some (PB s n d r l b g k)) := row_on (row_on (heap_new w _) (alP _ _)) (alP _ _)
  have HO0 : Hid ((((w.alloc (PB s n d r l b g k)).alloc (.cells #[.int .i64 K, .int .i64 N, .int .i64 D, .int .i64 V] 82)).alloc (PB 0 0 0 0 0 0 0 0)).heap[w.heap.size + 1]? = some (.cells #[.int .i64 K, .int .i64 N, .int .i64 D, .int .i64 V] 82)) := row_on (al_at (w.alloc (PB s n d r l b g k)) _ (by simp)) (alP _ _)
  have HZ0 : Hid ((((w.alloc (PB s n d r l b g k)).alloc (.cells #[.int .i64 K, .int .i64 N, .int .i64 D, .int .i64 V] 82)).alloc (PB 0 0 0 0 0 0 0 0)).heap[w.heap.size + 1 + 1]? = some (PB 0 0 0 0 0 0 0 0)) := al_at ((w.alloc (PB s n d r l b g k)).alloc (.cells #[.int .i64 K, .int .i64 N, .int .i64 D, .int .i64 V] 82)) _ (by simp)
  have p0 := box8_cells HP0.out
  have o0 := box4_cells HO0.out
  go_enter Tryz.func105, Tryz.ntmps105
  go_upto_region 2 with fail
  go_wp2_with (refine listStoreP rfl rfl _ _ _ rfl rfl (w.heap.size + 1 + 1) (s) (n) (d) (r) (l) (b) (g) (k) rfl rfl HZ0.out ?_)
  intro w99 hr9 ho9 hs9 hB9
  have HF : Hid (Below w.heap.size w w99) := hB9 _ _ (le2 _) HB0.out
  obtain ⟨⟨q0, q1, q2, q3, q4, q5, q6, q7⟩, _⟩ := box8_cells hr9
  clear ho9 hs9 hB9 hr9
  go_wp2
  refine bodyPost_ret (v := .tuple #[PV s n d r l b g k, .bool false]) (by simp only [results, Tryz.results105]; simp [go_sem, q0, q1, q2, q3, q4, q5, q6, q7]) rfl ⟨rfl, HF.out⟩
set_option maxRecDepth 100000 in
set_option maxHeartbeats 4000000 in
theorem wbI_0 (s n d r l g k K N D V : Int)  (w : World) : Calls Tryz.prog 104 #[PV s n d r l 0 g k, .agg #[.int .i64 K, .int .i64 N, .int .i64 D, .int .i64 V]] w fun e w' => e = .returned (.tuple #[PV s n d r l V g k, .bool true]) ∧ Below w.heap.size w w' := by
  have HB0 : Hid (Below w.heap.size w (((w.alloc (PB s n d r l 0 g k)).alloc (.cells #[.int .i64 K, .int .i64 N, .int .i64 D, .int .i64 V] 82)).alloc (PB 0 0 0 0 0 0 0 0))) := bel_on (Nat.le_refl _) (bel_on (Nat.le_refl _) (alP _ _) (alP _ _)) (alP _ _)
  have HP0 : Hid ((((w.alloc (PB s n d r l 0 g k)).alloc (.cells #[.int .i64 K, .int .i64 N, .int .i64 D, .int .i64 V] 82)).alloc (PB 0 0 0 0 0 0 0 0)).heap[w.heap.size]? = some (PB s n d r l 0 g k)) := row_on (row_on (heap_new w _) (alP _ _)) (alP _ _)
  have HO0 : Hid ((((w.alloc (PB s n d r l 0 g k)).alloc (.cells #[.int .i64 K, .int .i64 N, .int .i64 D, .int .i64 V] 82)).alloc (PB 0 0 0 0 0 0 0 0)).heap[w.heap.size + 1]? = some (.cells #[.int .i64 K, .int .i64 N, .int .i64 D, .int .i64 V] 82)) := row_on (al_at (w.alloc (PB s n d r l 0 g k)) _ (by simp)) (alP _ _)
  have HZ0 : Hid ((((w.alloc (PB s n d r l 0 g k)).alloc (.cells #[.int .i64 K, .int .i64 N, .int .i64 D, .int .i64 V] 82)).alloc (PB 0 0 0 0 0 0 0 0)).heap[w.heap.size + 1 + 1]? = some (PB 0 0 0 0 0 0 0 0)) := al_at ((w.alloc (PB s n d r l 0 g k)).alloc (.cells #[.int .i64 K, .int .i64 N, .int .i64 D, .int .i64 V] 82)) _ (by simp)
  have p0 := box8_cells HP0.out
  have o0 := box4_cells HO0.out
  go_enter Tryz.func104, Tryz.ntmps104
  go_wp2_with (refine listStoreC rfl rfl _ _ _ rfl rfl w.heap.size 5 (V) rfl rfl HP0.out (by simp) ?_)
  intro w1 hr ho hs hB
  have HB1 : Hid (Below w.heap.size w w1) := hB _ _ (Nat.le_refl _) HB0.out
  have HP1 : Hid (w1.heap[w.heap.size]? = some (PB s n d r l V g k)) := hr
  have HO1 : Hid (w1.heap[w.heap.size + 1]? = some (.cells #[.int .i64 K, .int .i64 N, .int .i64 D, .int .i64 V] 82)) := (ho _ (by omega)).trans HO0.out
  have HZ1 : Hid (w1.heap[w.heap.size + 1 + 1]? = some (PB 0 0 0 0 0 0 0 0)) := (ho _ (by omega)).trans HZ0.out
  have p1 := box8_cells HP1.out
  have o1 := box4_cells HO1.out
  clear hr ho hs hB HB0 HP0 HO0 HZ0 p0 o0
  go_upto_region 4 with fail
  go_wp2_with (refine listStoreP rfl rfl _ _ _ rfl rfl (w.heap.size + 1 + 1) (s) (n) (d) (r) (l) (V) (g) (k) rfl rfl HZ1.out ?_)
  intro w99 hr9 ho9 hs9 hB9
  have HF : Hid (Below w.heap.size w w99) := hB9 _ _ (le2 _) HB1.out
  obtain ⟨⟨q0, q1, q2, q3, q4, q5, q6, q7⟩, _⟩ := box8_cells hr9
  clear ho9 hs9 hB9 hr9
  go_wp2
  refine bodyPost_ret (v := .tuple #[PV s n d r l V g k, .bool true]) (by simp only [results, Tryz.results104]; simp [go_sem, q0, q1, q2, q3, q4, q5, q6, q7]) rfl ⟨rfl, HF.out⟩
set_option maxRecDepth 100000 in
set_option maxHeartbeats 4000000 in
theorem wbI_n (s n d r l b g k K N D V : Int) (hb0 : (b != 0) = true) (w : World) : Calls Tryz.prog 104 #[PV s n d r l b g k, .agg #[.int .i64 K, .int .i64 N, .int .i64 D, .int .i64 V]] w fun e w' => e = .returned (.tuple #[PV s n d r l b g k, .bool false]) ∧ Below w.heap.size w w' := by
  have HB0 : Hid (Below w.heap.size w (((w.alloc (PB s n d r l b g k)).alloc (.cells #[.int .i64 K, .int .i64 N, .int .i64 D, .int .i64 V] 82)).alloc (PB 0 0 0 0 0 0 0 0))) := bel_on (Nat.le_refl _) (bel_on (Nat.le_refl _) (alP _ _) (alP _ _)) (alP _ _)
  have HP0 : Hid ((((w.alloc (PB s n d r l b g k)).alloc (.cells #[.int .i64 K, .int .i64 N, .int .i64 D, .int .i64 V] 82)).alloc (PB 0 0 0 0 0 0 0 0)).heap[w.heap.size]? = some (PB s n d r l b g k)) := row_on (row_on (heap_new w _) (alP _ _)) (alP _ _)
  have HO0 : Hid ((((w.alloc (PB s n d r l b g k)).alloc (.cells #[.int .i64 K, .int .i64 N, .int .i64 D, .int .i64 V] 82)).alloc (PB 0 0 0 0 0 0 0 0)).heap[w.heap.size + 1]? = some (.cells #[.int .i64 K, .int .i64 N, .int .i64 D, .int .i64 V] 82)) := row_on (al_at (w.alloc (PB s n d r l b g k)) _ (by simp)) (alP _ _)
  have HZ0 : Hid ((((w.alloc (PB s n d r l b g k)).alloc (.cells #[.int .i64 K, .int .i64 N, .int .i64 D, .int .i64 V] 82)).alloc (PB 0 0 0 0 0 0 0 0)).heap[w.heap.size + 1 + 1]? = some (PB 0 0 0 0 0 0 0 0)) := al_at ((w.alloc (PB s n d r l b g k)).alloc (.cells #[.int .i64 K, .int .i64 N, .int .i64 D, .int .i64 V] 82)) _ (by simp)
  have p0 := box8_cells HP0.out
  have o0 := box4_cells HO0.out
  go_enter Tryz.func104, Tryz.ntmps104
  go_upto_region 2 with fail
  go_wp2_with (refine listStoreP rfl rfl _ _ _ rfl rfl (w.heap.size + 1 + 1) (s) (n) (d) (r) (l) (b) (g) (k) rfl rfl HZ0.out ?_)
  intro w99 hr9 ho9 hs9 hB9
  have HF : Hid (Below w.heap.size w w99) := hB9 _ _ (le2 _) HB0.out
  obtain ⟨⟨q0, q1, q2, q3, q4, q5, q6, q7⟩, _⟩ := box8_cells hr9
  clear ho9 hs9 hB9 hr9
  go_wp2
  refine bodyPost_ret (v := .tuple #[PV s n d r l b g k, .bool false]) (by simp only [results, Tryz.results104]; simp [go_sem, q0, q1, q2, q3, q4, q5, q6, q7]) rfl ⟨rfl, HF.out⟩
set_option maxRecDepth 100000 in
set_option maxHeartbeats 4000000 in
theorem runI_2 (s n d r l b g k N D V : Int) {z0 z1 z2 z3 z4 z5 z6 z7 : Int} {y : Bool} (KT : Hid (∀ w, Calls Tryz.prog 104 #[PV s n d r l b g k, .agg #[.int .i64 2, .int .i64 N, .int .i64 D, .int .i64 V]] w fun e w' => e = .returned (.tuple #[PV z0 z1 z2 z3 z4 z5 z6 z7, .bool y]) ∧ Below w.heap.size w w')) (w : World) : Calls Tryz.prog 67 #[PV s n d r l b g k, .agg #[.int .i64 2, .int .i64 N, .int .i64 D, .int .i64 V]] w fun e w' => e = .returned (.tuple #[PV z0 z1 z2 z3 z4 z5 z6 z7, .bool y]) ∧ Below w.heap.size w w' := by
  have HB0 : Hid (Below w.heap.size w (((w.alloc (PB s n d r l b g k)).alloc (.cells #[.int .i64 2, .int .i64 N, .int .i64 D, .int .i64 V] 82)).alloc (PB 0 0 0 0 0 0 0 0))) := bel_on (Nat.le_refl _) (bel_on (Nat.le_refl _) (alP _ _) (alP _ _)) (alP _ _)
  have HP0 : Hid ((((w.alloc (PB s n d r l b g k)).alloc (.cells #[.int .i64 2, .int .i64 N, .int .i64 D, .int .i64 V] 82)).alloc (PB 0 0 0 0 0 0 0 0)).heap[w.heap.size]? = some (PB s n d r l b g k)) := row_on (row_on (heap_new w _) (alP _ _)) (alP _ _)
  have HO0 : Hid ((((w.alloc (PB s n d r l b g k)).alloc (.cells #[.int .i64 2, .int .i64 N, .int .i64 D, .int .i64 V] 82)).alloc (PB 0 0 0 0 0 0 0 0)).heap[w.heap.size + 1]? = some (.cells #[.int .i64 2, .int .i64 N, .int .i64 D, .int .i64 V] 82)) := row_on (al_at (w.alloc (PB s n d r l b g k)) _ (by simp)) (alP _ _)
  have HZ0 : Hid ((((w.alloc (PB s n d r l b g k)).alloc (.cells #[.int .i64 2, .int .i64 N, .int .i64 D, .int .i64 V] 82)).alloc (PB 0 0 0 0 0 0 0 0)).heap[w.heap.size + 1 + 1]? = some (PB 0 0 0 0 0 0 0 0)) := al_at ((w.alloc (PB s n d r l b g k)).alloc (.cells #[.int .i64 2, .int .i64 N, .int .i64 D, .int .i64 V] 82)) _ (by simp)
  have p0 := box8_cells HP0.out
  have o0 := box4_cells HO0.out
  go_enter Tryz.func67, Tryz.ntmps67
  go_wp2_with fail
  refine Calls.mono (KT.out _) ?_
  rintro e w1 ⟨rfl, hb⟩
  have HB1 : Hid (Below w.heap.size w w1) := bel_on (Nat.le_refl _) HB0.out hb
  have HP1 : Hid (w1.heap[w.heap.size]? = some (PB s n d r l b g k)) := row_on HP0.out hb
  have HO1 : Hid (w1.heap[w.heap.size + 1]? = some (.cells #[.int .i64 2, .int .i64 N, .int .i64 D, .int .i64 V] 82)) := row_on HO0.out hb
  have HZ1 : Hid (w1.heap[w.heap.size + 1 + 1]? = some (PB 0 0 0 0 0 0 0 0)) := row_on HZ0.out hb
  have p1 := box8_cells HP1.out
  have o1 := box4_cells HO1.out
  clear hb HB0 HP0 HO0 HZ0 p0 o0
  go_wp2_with (refine listStoreP rfl rfl _ _ _ rfl rfl (w.heap.size + 1 + 1) (z0) (z1) (z2) (z3) (z4) (z5) (z6) (z7) rfl rfl HZ1.out ?_)
  intro w99 hr9 ho9 hs9 hB9
  have HF : Hid (Below w.heap.size w w99) := hB9 _ _ (le2 _) HB1.out
  obtain ⟨⟨q0, q1, q2, q3, q4, q5, q6, q7⟩, _⟩ := box8_cells hr9
  clear ho9 hs9 hB9 hr9
  go_wp2
  refine bodyPost_ret (v := .tuple #[PV z0 z1 z2 z3 z4 z5 z6 z7, .bool y]) (by simp only [results, Tryz.results67]; simp [go_sem, q0, q1, q2, q3, q4, q5, q6, q7]) rfl ⟨rfl, HF.out⟩
set_option maxRecDepth 100000 in
set_option maxHeartbeats 4000000 in
theorem runI_3 (s n d r l b g k N D V : Int)  (w : World) : Calls Tryz.prog 67 #[PV s n d r l b g k, .agg #[.int .i64 3, .int .i64 N, .int .i64 D, .int .i64 V]] w fun e w' => e = .returned (.tuple #[PV 3 n d r l b g s, .bool true]) ∧ Below w.heap.size w w' := by
  have HB0 : Hid (Below w.heap.size w (((w.alloc (PB s n d r l b g k)).alloc (.cells #[.int .i64 3, .int .i64 N, .int .i64 D, .int .i64 V] 82)).alloc (PB 0 0 0 0 0 0 0 0))) := bel_on (Nat.le_refl _) (bel_on (Nat.le_refl _) (alP _ _) (alP _ _)) (alP _ _)
  have HP0 : Hid ((((w.alloc (PB s n d r l b g k)).alloc (.cells #[.int .i64 3, .int .i64 N, .int .i64 D, .int .i64 V] 82)).alloc (PB 0 0 0 0 0 0 0 0)).heap[w.heap.size]? = some (PB s n d r l b g k)) := row_on (row_on (heap_new w _) (alP _ _)) (alP _ _)
  have HO0 : Hid ((((w.alloc (PB s n d r l b g k)).alloc (.cells #[.int .i64 3, .int .i64 N, .int .i64 D, .int .i64 V] 82)).alloc (PB 0 0 0 0 0 0 0 0)).heap[w.heap.size + 1]? = some (.cells #[.int .i64 3, .int .i64 N, .int .i64 D, .int .i64 V] 82)) := row_on (al_at (w.alloc (PB s n d r l b g k)) _ (by simp)) (alP _ _)
  have HZ0 : Hid ((((w.alloc (PB s n d r l b g k)).alloc (.cells #[.int .i64 3, .int .i64 N, .int .i64 D, .int .i64 V] 82)).alloc (PB 0 0 0 0 0 0 0 0)).heap[w.heap.size + 1 + 1]? = some (PB 0 0 0 0 0 0 0 0)) := al_at ((w.alloc (PB s n d r l b g k)).alloc (.cells #[.int .i64 3, .int .i64 N, .int .i64 D, .int .i64 V] 82)) _ (by simp)
  have p0 := box8_cells HP0.out
  have o0 := box4_cells HO0.out
  go_enter Tryz.func67, Tryz.ntmps67
  go_wp2_with (refine listStoreC rfl rfl _ _ _ rfl rfl w.heap.size 0 (3) rfl rfl HP0.out (by simp) ?_)
  intro w1 hr ho hs hB
  have HB1 : Hid (Below w.heap.size w w1) := hB _ _ (Nat.le_refl _) HB0.out
  have HP1 : Hid (w1.heap[w.heap.size]? = some (PB 3 n d r l b g k)) := hr
  have HO1 : Hid (w1.heap[w.heap.size + 1]? = some (.cells #[.int .i64 3, .int .i64 N, .int .i64 D, .int .i64 V] 82)) := (ho _ (by omega)).trans HO0.out
  have HZ1 : Hid (w1.heap[w.heap.size + 1 + 1]? = some (PB 0 0 0 0 0 0 0 0)) := (ho _ (by omega)).trans HZ0.out
  have p1 := box8_cells HP1.out
  have o1 := box4_cells HO1.out
  clear hr ho hs hB HB0 HP0 HO0 HZ0 p0 o0
  go_wp2_with (refine listStoreC rfl rfl _ _ _ rfl rfl w.heap.size 7 (s) rfl rfl HP1.out (by simp) ?_)
  intro w2 hr ho hs hB
  have HB2 : Hid (Below w.heap.size w w2) := hB _ _ (Nat.le_refl _) HB1.out
  have HP2 : Hid (w2.heap[w.heap.size]? = some (PB 3 n d r l b g s)) := hr
  have HO2 : Hid (w2.heap[w.heap.size + 1]? = some (.cells #[.int .i64 3, .int .i64 N, .int .i64 D, .int .i64 V] 82)) := (ho _ (by omega)).trans HO1.out
  have HZ2 : Hid (w2.heap[w.heap.size + 1 + 1]? = some (PB 0 0 0 0 0 0 0 0)) := (ho _ (by omega)).trans HZ1.out
  have p2 := box8_cells HP2.out
  have o2 := box4_cells HO2.out
  clear hr ho hs hB HB1 HP1 HO1 HZ1 p1 o1
  go_upto_region 6 with fail
  go_wp2_with (refine listStoreP rfl rfl _ _ _ rfl rfl (w.heap.size + 1 + 1) (3) (n) (d) (r) (l) (b) (g) (s) rfl rfl HZ2.out ?_)
  intro w99 hr9 ho9 hs9 hB9
  have HF : Hid (Below w.heap.size w w99) := hB9 _ _ (le2 _) HB2.out
  obtain ⟨⟨q0, q1, q2, q3, q4, q5, q6, q7⟩, _⟩ := box8_cells hr9
  clear ho9 hs9 hB9 hr9
  go_wp2
  refine bodyPost_ret (v := .tuple #[PV 3 n d r l b g s, .bool true]) (by simp only [results, Tryz.results67]; simp [go_sem, q0, q1, q2, q3, q4, q5, q6, q7]) rfl ⟨rfl, HF.out⟩
set_option maxRecDepth 100000 in
set_option maxHeartbeats 4000000 in
theorem runI_n (s n d r l b g k K N D V : Int) (h2 : (K == 2) = false) (h3 : (K == 3) = false) {z0 z1 z2 z3 z4 z5 z6 z7 : Int} {y : Bool} (KT : Hid (∀ w, Calls Tryz.prog 105 #[PV s n d r l b g k, .agg #[.int .i64 K, .int .i64 N, .int .i64 D, .int .i64 V]] w fun e w' => e = .returned (.tuple #[PV z0 z1 z2 z3 z4 z5 z6 z7, .bool y]) ∧ Below w.heap.size w w')) (w : World) : Calls Tryz.prog 67 #[PV s n d r l b g k, .agg #[.int .i64 K, .int .i64 N, .int .i64 D, .int .i64 V]] w fun e w' => e = .returned (.tuple #[PV z0 z1 z2 z3 z4 z5 z6 z7, .bool y]) ∧ Below w.heap.size w w' := by
  have HB0 : Hid (Below w.heap.size w (((w.alloc (PB s n d r l b g k)).alloc (.cells #[.int .i64 K, .int .i64 N, .int .i64 D, .int .i64 V] 82)).alloc (PB 0 0 0 0 0 0 0 0))) := bel_on (Nat.le_refl _) (bel_on (Nat.le_refl _) (alP _ _) (alP _ _)) (alP _ _)
  have HP0 : Hid ((((w.alloc (PB s n d r l b g k)).alloc (.cells #[.int .i64 K, .int .i64 N, .int .i64 D, .int .i64 V] 82)).alloc (PB 0 0 0 0 0 0 0 0)).heap[w.heap.size]? = some (PB s n d r l b g k)) := row_on (row_on (heap_new w _) (alP _ _)) (alP _ _)
  have HO0 : Hid ((((w.alloc (PB s n d r l b g k)).alloc (.cells #[.int .i64 K, .int .i64 N, .int .i64 D, .int .i64 V] 82)).alloc (PB 0 0 0 0 0 0 0 0)).heap[w.heap.size + 1]? = some (.cells #[.int .i64 K, .int .i64 N, .int .i64 D, .int .i64 V] 82)) := row_on (al_at (w.alloc (PB s n d r l b g k)) _ (by simp)) (alP _ _)
  have HZ0 : Hid ((((w.alloc (PB s n d r l b g k)).alloc (.cells #[.int .i64 K, .int .i64 N, .int .i64 D, .int .i64 V] 82)).alloc (PB 0 0 0 0 0 0 0 0)).heap[w.heap.size + 1 + 1]? = some (PB 0 0 0 0 0 0 0 0)) := al_at ((w.alloc (PB s n d r l b g k)).alloc (.cells #[.int .i64 K, .int .i64 N, .int .i64 D, .int .i64 V] 82)) _ (by simp)
  have p0 := box8_cells HP0.out
  have o0 := box4_cells HO0.out
  go_enter Tryz.func67, Tryz.ntmps67
  go_wp2_with fail
  refine Calls.mono (KT.out _) ?_
  rintro e w1 ⟨rfl, hb⟩
  have HB1 : Hid (Below w.heap.size w w1) := bel_on (Nat.le_refl _) HB0.out hb
  have HP1 : Hid (w1.heap[w.heap.size]? = some (PB s n d r l b g k)) := row_on HP0.out hb
  have HO1 : Hid (w1.heap[w.heap.size + 1]? = some (.cells #[.int .i64 K, .int .i64 N, .int .i64 D, .int .i64 V] 82)) := row_on HO0.out hb
  have HZ1 : Hid (w1.heap[w.heap.size + 1 + 1]? = some (PB 0 0 0 0 0 0 0 0)) := row_on HZ0.out hb
  have p1 := box8_cells HP1.out
  have o1 := box4_cells HO1.out
  clear hb HB0 HP0 HO0 HZ0 p0 o0
  go_wp2_with (refine listStoreP rfl rfl _ _ _ rfl rfl (w.heap.size + 1 + 1) (z0) (z1) (z2) (z3) (z4) (z5) (z6) (z7) rfl rfl HZ1.out ?_)
  intro w99 hr9 ho9 hs9 hB9
  have HF : Hid (Below w.heap.size w w99) := hB9 _ _ (le2 _) HB1.out
  obtain ⟨⟨q0, q1, q2, q3, q4, q5, q6, q7⟩, _⟩ := box8_cells hr9
  clear ho9 hs9 hB9 hr9
  go_wp2
  refine bodyPost_ret (v := .tuple #[PV z0 z1 z2 z3 z4 z5 z6 z7, .bool y]) (by simp only [results, Tryz.results67]; simp [go_sem, q0, q1, q2, q3, q4, q5, q6, q7]) rfl ⟨rfl, HF.out⟩
set_option maxRecDepth 100000 in
set_option maxHeartbeats 4000000 in
theorem kepI_1 (s n d r l b g k N D V : Int) {z0 z1 z2 z3 z4 z5 z6 z7 : Int} (KT : Hid (∀ w, Calls Tryz.prog 109 #[PV s n d r l b g k, .agg #[.int .i64 1, .int .i64 N, .int .i64 D, .int .i64 V]] w fun e w' => e = .returned (PV z0 z1 z2 z3 z4 z5 z6 z7) ∧ Below w.heap.size w w')) (w : World) : Calls Tryz.prog 70 #[PV s n d r l b g k, .agg #[.int .i64 1, .int .i64 N, .int .i64 D, .int .i64 V]] w fun e w' => e = .returned (.tuple #[PV z0 z1 z2 z3 z4 z5 z6 z7, .bool true]) ∧ Below w.heap.size w w' := by
  have HB0 : Hid (Below w.heap.size w (((w.alloc (PB s n d r l b g k)).alloc (.cells #[.int .i64 1, .int .i64 N, .int .i64 D, .int .i64 V] 82)).alloc (PB 0 0 0 0 0 0 0 0))) := bel_on (Nat.le_refl _) (bel_on (Nat.le_refl _) (alP _ _) (alP _ _)) (alP _ _)
  have HP0 : Hid ((((w.alloc (PB s n d r l b g k)).alloc (.cells #[.int .i64 1, .int .i64 N, .int .i64 D, .int .i64 V] 82)).alloc (PB 0 0 0 0 0 0 0 0)).heap[w.heap.size]? = some (PB s n d r l b g k)) := row_on (row_on (heap_new w _) (alP _ _)) (alP _ _)
  have HO0 : Hid ((((w.alloc (PB s n d r l b g k)).alloc (.cells #[.int .i64 1, .int .i64 N, .int .i64 D, .int .i64 V] 82)).alloc (PB 0 0 0 0 0 0 0 0)).heap[w.heap.size + 1]? = some (.cells #[.int .i64 1, .int .i64 N, .int .i64 D, .int .i64 V] 82)) := row_on (al_at (w.alloc (PB s n d r l b g k)) _ (by simp)) (alP _ _)
  have HZ0 : Hid ((((w.alloc (PB s n d r l b g k)).alloc (.cells #[.int .i64 1, .int .i64 N, .int .i64 D, .int .i64 V] 82)).alloc (PB 0 0 0 0 0 0 0 0)).heap[w.heap.size + 1 + 1]? = some (PB 0 0 0 0 0 0 0 0)) := al_at ((w.alloc (PB s n d r l b g k)).alloc (.cells #[.int .i64 1, .int .i64 N, .int .i64 D, .int .i64 V] 82)) _ (by simp)
  have p0 := box8_cells HP0.out
  have o0 := box4_cells HO0.out
  go_enter Tryz.func70, Tryz.ntmps70
  go_wp2_with fail
  refine Calls.mono (KT.out _) ?_
  rintro e w1 ⟨rfl, hb⟩
  have HB1 : Hid (Below w.heap.size w w1) := bel_on (Nat.le_refl _) HB0.out hb
  have HP1 : Hid (w1.heap[w.heap.size]? = some (PB s n d r l b g k)) := row_on HP0.out hb
  have HO1 : Hid (w1.heap[w.heap.size + 1]? = some (.cells #[.int .i64 1, .int .i64 N, .int .i64 D, .int .i64 V] 82)) := row_on HO0.out hb
  have HZ1 : Hid (w1.heap[w.heap.size + 1 + 1]? = some (PB 0 0 0 0 0 0 0 0)) := row_on HZ0.out hb
  have p1 := box8_cells HP1.out
  have o1 := box4_cells HO1.out
  clear hb HB0 HP0 HO0 HZ0 p0 o0
  go_wp2_with (refine listStoreP rfl rfl _ _ _ rfl rfl (w.heap.size + 1 + 1) (z0) (z1) (z2) (z3) (z4) (z5) (z6) (z7) rfl rfl HZ1.out ?_)
  intro w99 hr9 ho9 hs9 hB9
  have HF : Hid (Below w.heap.size w w99) := hB9 _ _ (le2 _) HB1.out
  obtain ⟨⟨q0, q1, q2, q3, q4, q5, q6, q7⟩, _⟩ := box8_cells hr9
  clear ho9 hs9 hB9 hr9
  go_wp2
  refine bodyPost_ret (v := .tuple #[PV z0 z1 z2 z3 z4 z5 z6 z7, .bool true]) (by simp only [results, Tryz.results70]; simp [go_sem, q0, q1, q2, q3, q4, q5, q6, q7]) rfl ⟨rfl, HF.out⟩
set_option maxRecDepth 100000 in
set_option maxHeartbeats 4000000 in
theorem kepI_n (s n d r l b g k K N D V : Int) (h1 : (K == 1) = false) {z0 z1 z2 z3 z4 z5 z6 z7 : Int} {y : Bool} (KT : Hid (∀ w, Calls Tryz.prog 67 #[PV s n d r l b g k, .agg #[.int .i64 K, .int .i64 N, .int .i64 D, .int .i64 V]] w fun e w' => e = .returned (.tuple #[PV z0 z1 z2 z3 z4 z5 z6 z7, .bool y]) ∧ Below w.heap.size w w')) (w : World) : Calls Tryz.prog 70 #[PV s n d r l b g k, .agg #[.int .i64 K, .int .i64 N, .int .i64 D, .int .i64 V]] w fun e w' => e = .returned (.tuple #[PV z0 z1 z2 z3 z4 z5 z6 z7, .bool y]) ∧ Below w.heap.size w w' := by
  have HB0 : Hid (Below w.heap.size w (((w.alloc (PB s n d r l b g k)).alloc (.cells #[.int .i64 K, .int .i64 N, .int .i64 D, .int .i64 V] 82)).alloc (PB 0 0 0 0 0 0 0 0))) := bel_on (Nat.le_refl _) (bel_on (Nat.le_refl _) (alP _ _) (alP _ _)) (alP _ _)
  have HP0 : Hid ((((w.alloc (PB s n d r l b g k)).alloc (.cells #[.int .i64 K, .int .i64 N, .int .i64 D, .int .i64 V] 82)).alloc (PB 0 0 0 0 0 0 0 0)).heap[w.heap.size]? = some (PB s n d r l b g k)) := row_on (row_on (heap_new w _) (alP _ _)) (alP _ _)
  have HO0 : Hid ((((w.alloc (PB s n d r l b g k)).alloc (.cells #[.int .i64 K, .int .i64 N, .int .i64 D, .int .i64 V] 82)).alloc (PB 0 0 0 0 0 0 0 0)).heap[w.heap.size + 1]? = some (.cells #[.int .i64 K, .int .i64 N, .int .i64 D, .int .i64 V] 82)) := row_on (al_at (w.alloc (PB s n d r l b g k)) _ (by simp)) (alP _ _)
  have HZ0 : Hid ((((w.alloc (PB s n d r l b g k)).alloc (.cells #[.int .i64 K, .int .i64 N, .int .i64 D, .int .i64 V] 82)).alloc (PB 0 0 0 0 0 0 0 0)).heap[w.heap.size + 1 + 1]? = some (PB 0 0 0 0 0 0 0 0)) := al_at ((w.alloc (PB s n d r l b g k)).alloc (.cells #[.int .i64 K, .int .i64 N, .int .i64 D, .int .i64 V] 82)) _ (by simp)
  have p0 := box8_cells HP0.out
  have o0 := box4_cells HO0.out
  go_enter Tryz.func70, Tryz.ntmps70
  go_wp2_with fail
  refine Calls.mono (KT.out _) ?_
  rintro e w1 ⟨rfl, hb⟩
  have HB1 : Hid (Below w.heap.size w w1) := bel_on (Nat.le_refl _) HB0.out hb
  have HP1 : Hid (w1.heap[w.heap.size]? = some (PB s n d r l b g k)) := row_on HP0.out hb
  have HO1 : Hid (w1.heap[w.heap.size + 1]? = some (.cells #[.int .i64 K, .int .i64 N, .int .i64 D, .int .i64 V] 82)) := row_on HO0.out hb
  have HZ1 : Hid (w1.heap[w.heap.size + 1 + 1]? = some (PB 0 0 0 0 0 0 0 0)) := row_on HZ0.out hb
  have p1 := box8_cells HP1.out
  have o1 := box4_cells HO1.out
  clear hb HB0 HP0 HO0 HZ0 p0 o0
  go_wp2_with (refine listStoreP rfl rfl _ _ _ rfl rfl (w.heap.size + 1 + 1) (z0) (z1) (z2) (z3) (z4) (z5) (z6) (z7) rfl rfl HZ1.out ?_)
  intro w99 hr9 ho9 hs9 hB9
  have HF : Hid (Below w.heap.size w w99) := hB9 _ _ (le2 _) HB1.out
  obtain ⟨⟨q0, q1, q2, q3, q4, q5, q6, q7⟩, _⟩ := box8_cells hr9
  clear ho9 hs9 hB9 hr9
  go_wp2
  refine bodyPost_ret (v := .tuple #[PV z0 z1 z2 z3 z4 z5 z6 z7, .bool y]) (by simp only [results, Tryz.results70]; simp [go_sem, q0, q1, q2, q3, q4, q5, q6, q7]) rfl ⟨rfl, HF.out⟩
set_option maxRecDepth 100000 in
set_option maxHeartbeats 4000000 in
theorem idlI_1 (s n d r l b g k N D V : Int) {z0 z1 z2 z3 z4 z5 z6 z7 : Int} (KT : Hid (∀ w, Calls Tryz.prog 109 #[PV s n d r l b g k, .agg #[.int .i64 1, .int .i64 N, .int .i64 D, .int .i64 V]] w fun e w' => e = .returned (PV z0 z1 z2 z3 z4 z5 z6 z7) ∧ Below w.heap.size w w')) (w : World) : Calls Tryz.prog 76 #[PV s n d r l b g k, .agg #[.int .i64 1, .int .i64 N, .int .i64 D, .int .i64 V]] w fun e w' => e = .returned (.tuple #[PV z0 z1 z2 z3 z4 z5 z6 z7, .bool true]) ∧ Below w.heap.size w w' := by
  have HB0 : Hid (Below w.heap.size w (((w.alloc (PB s n d r l b g k)).alloc (.cells #[.int .i64 1, .int .i64 N, .int .i64 D, .int .i64 V] 82)).alloc (PB 0 0 0 0 0 0 0 0))) := bel_on (Nat.le_refl _) (bel_on (Nat.le_refl _) (alP _ _) (alP _ _)) (alP _ _)
  have HP0 : Hid ((((w.alloc (PB s n d r l b g k)).alloc (.cells #[.int .i64 1, .int .i64 N, .int .i64 D, .int .i64 V] 82)).alloc (PB 0 0 0 0 0 0 0 0)).heap[w.heap.size]? = some (PB s n d r l b g k)) := row_on (row_on (heap_new w _) (alP _ _)) (alP _ _)
  have HO0 : Hid ((((w.alloc (PB s n d r l b g k)).alloc (.cells #[.int .i64 1, .int .i64 N, .int .i64 D, .int .i64 V] 82)).alloc (PB 0 0 0 0 0 0 0 0)).heap[w.heap.size + 1]? = some (.cells #[.int .i64 1, .int .i64 N, .int .i64 D, .int .i64 V] 82)) := row_on (al_at (w.alloc (PB s n d r l b g k)) _ (by simp)) (alP _ _)
  have HZ0 : Hid ((((w.alloc (PB s n d r l b g k)).alloc (.cells #[.int .i64 1, .int .i64 N, .int .i64 D, .int .i64 V] 82)).alloc (PB 0 0 0 0 0 0 0 0)).heap[w.heap.size + 1 + 1]? = some (PB 0 0 0 0 0 0 0 0)) := al_at ((w.alloc (PB s n d r l b g k)).alloc (.cells #[.int .i64 1, .int .i64 N, .int .i64 D, .int .i64 V] 82)) _ (by simp)
  have p0 := box8_cells HP0.out
  have o0 := box4_cells HO0.out
  go_enter Tryz.func76, Tryz.ntmps76
  go_wp2_with fail
  refine Calls.mono (KT.out _) ?_
  rintro e w1 ⟨rfl, hb⟩
  have HB1 : Hid (Below w.heap.size w w1) := bel_on (Nat.le_refl _) HB0.out hb
  have HP1 : Hid (w1.heap[w.heap.size]? = some (PB s n d r l b g k)) := row_on HP0.out hb
  have HO1 : Hid (w1.heap[w.heap.size + 1]? = some (.cells #[.int .i64 1, .int .i64 N, .int .i64 D, .int .i64 V] 82)) := row_on HO0.out hb
  have HZ1 : Hid (w1.heap[w.heap.size + 1 + 1]? = some (PB 0 0 0 0 0 0 0 0)) := row_on HZ0.out hb
  have p1 := box8_cells HP1.out
  have o1 := box4_cells HO1.out
  clear hb HB0 HP0 HO0 HZ0 p0 o0
  go_wp2_with (refine listStoreP rfl rfl _ _ _ rfl rfl (w.heap.size + 1 + 1) (z0) (z1) (z2) (z3) (z4) (z5) (z6) (z7) rfl rfl HZ1.out ?_)
  intro w99 hr9 ho9 hs9 hB9
  have HF : Hid (Below w.heap.size w w99) := hB9 _ _ (le2 _) HB1.out
  obtain ⟨⟨q0, q1, q2, q3, q4, q5, q6, q7⟩, _⟩ := box8_cells hr9
  clear ho9 hs9 hB9 hr9
  go_wp2
  refine bodyPost_ret (v := .tuple #[PV z0 z1 z2 z3 z4 z5 z6 z7, .bool true]) (by simp only [results, Tryz.results76]; simp [go_sem, q0, q1, q2, q3, q4, q5, q6, q7]) rfl ⟨rfl, HF.out⟩
set_option maxRecDepth 100000 in
set_option maxHeartbeats 4000000 in
theorem idlI_n (s n d r l b g k K N D V : Int) (h1 : (K == 1) = false) {z0 z1 z2 z3 z4 z5 z6 z7 : Int} {y : Bool} (KT : Hid (∀ w, Calls Tryz.prog 105 #[PV s n d r l b g k, .agg #[.int .i64 K, .int .i64 N, .int .i64 D, .int .i64 V]] w fun e w' => e = .returned (.tuple #[PV z0 z1 z2 z3 z4 z5 z6 z7, .bool y]) ∧ Below w.heap.size w w')) (w : World) : Calls Tryz.prog 76 #[PV s n d r l b g k, .agg #[.int .i64 K, .int .i64 N, .int .i64 D, .int .i64 V]] w fun e w' => e = .returned (.tuple #[PV z0 z1 z2 z3 z4 z5 z6 z7, .bool y]) ∧ Below w.heap.size w w' := by
  have HB0 : Hid (Below w.heap.size w (((w.alloc (PB s n d r l b g k)).alloc (.cells #[.int .i64 K, .int .i64 N, .int .i64 D, .int .i64 V] 82)).alloc (PB 0 0 0 0 0 0 0 0))) := bel_on (Nat.le_refl _) (bel_on (Nat.le_refl _) (alP _ _) (alP _ _)) (alP _ _)
  have HP0 : Hid ((((w.alloc (PB s n d r l b g k)).alloc (.cells #[.int .i64 K, .int .i64 N, .int .i64 D, .int .i64 V] 82)).alloc (PB 0 0 0 0 0 0 0 0)).heap[w.heap.size]? = some (PB s n d r l b g k)) := row_on (row_on (heap_new w _) (alP _ _)) (alP _ _)
  have HO0 : Hid ((((w.alloc (PB s n d r l b g k)).alloc (.cells #[.int .i64 K, .int .i64 N, .int .i64 D, .int .i64 V] 82)).alloc (PB 0 0 0 0 0 0 0 0)).heap[w.heap.size + 1]? = some (.cells #[.int .i64 K, .int .i64 N, .int .i64 D, .int .i64 V] 82)) := row_on (al_at (w.alloc (PB s n d r l b g k)) _ (by simp)) (alP _ _)
  have HZ0 : Hid ((((w.alloc (PB s n d r l b g k)).alloc (.cells #[.int .i64 K, .int .i64 N, .int .i64 D, .int .i64 V] 82)).alloc (PB 0 0 0 0 0 0 0 0)).heap[w.heap.size + 1 + 1]? = some (PB 0 0 0 0 0 0 0 0)) := al_at ((w.alloc (PB s n d r l b g k)).alloc (.cells #[.int .i64 K, .int .i64 N, .int .i64 D, .int .i64 V] 82)) _ (by simp)
  have p0 := box8_cells HP0.out
  have o0 := box4_cells HO0.out
  go_enter Tryz.func76, Tryz.ntmps76
  go_wp2_with fail
  refine Calls.mono (KT.out _) ?_
  rintro e w1 ⟨rfl, hb⟩
  have HB1 : Hid (Below w.heap.size w w1) := bel_on (Nat.le_refl _) HB0.out hb
  have HP1 : Hid (w1.heap[w.heap.size]? = some (PB s n d r l b g k)) := row_on HP0.out hb
  have HO1 : Hid (w1.heap[w.heap.size + 1]? = some (.cells #[.int .i64 K, .int .i64 N, .int .i64 D, .int .i64 V] 82)) := row_on HO0.out hb
  have HZ1 : Hid (w1.heap[w.heap.size + 1 + 1]? = some (PB 0 0 0 0 0 0 0 0)) := row_on HZ0.out hb
  have p1 := box8_cells HP1.out
  have o1 := box4_cells HO1.out
  clear hb HB0 HP0 HO0 HZ0 p0 o0
  go_wp2_with (refine listStoreP rfl rfl _ _ _ rfl rfl (w.heap.size + 1 + 1) (z0) (z1) (z2) (z3) (z4) (z5) (z6) (z7) rfl rfl HZ1.out ?_)
  intro w99 hr9 ho9 hs9 hB9
  have HF : Hid (Below w.heap.size w w99) := hB9 _ _ (le2 _) HB1.out
  obtain ⟨⟨q0, q1, q2, q3, q4, q5, q6, q7⟩, _⟩ := box8_cells hr9
  clear ho9 hs9 hB9 hr9
  go_wp2
  refine bodyPost_ret (v := .tuple #[PV z0 z1 z2 z3 z4 z5 z6 z7, .bool y]) (by simp only [results, Tryz.results76]; simp [go_sem, q0, q1, q2, q3, q4, q5, q6, q7]) rfl ⟨rfl, HF.out⟩
set_option maxRecDepth 100000 in
set_option maxHeartbeats 4000000 in
theorem pauI_4 (s n d r l b g k N D V : Int)  (w : World) : Calls Tryz.prog 73 #[PV s n d r l b g k, .agg #[.int .i64 4, .int .i64 N, .int .i64 D, .int .i64 V]] w fun e w' => e = .returned (.tuple #[PV k n d r l b g 0, .bool true]) ∧ Below w.heap.size w w' := by
  have HB0 : Hid (Below w.heap.size w (((w.alloc (PB s n d r l b g k)).alloc (.cells #[.int .i64 4, .int .i64 N, .int .i64 D, .int .i64 V] 82)).alloc (PB 0 0 0 0 0 0 0 0))) := bel_on (Nat.le_refl _) (bel_on (Nat.le_refl _) (alP _ _) (alP _ _)) (alP _ _)
  have HP0 : Hid ((((w.alloc (PB s n d r l b g k)).alloc (.cells #[.int .i64 4, .int .i64 N, .int .i64 D, .int .i64 V] 82)).alloc (PB 0 0 0 0 0 0 0 0)).heap[w.heap.size]? = some (PB s n d r l b g k)) := row_on (row_on (heap_new w _) (alP _ _)) (alP _ _)
  have HO0 : Hid ((((w.alloc (PB s n d r l b g k)).alloc (.cells #[.int .i64 4, .int .i64 N, .int .i64 D, .int .i64 V] 82)).alloc (PB 0 0 0 0 0 0 0 0)).heap[w.heap.size + 1]? = some (.cells #[.int .i64 4, .int .i64 N, .int .i64 D, .int .i64 V] 82)) := row_on (al_at (w.alloc (PB s n d r l b g k)) _ (by simp)) (alP _ _)
  have HZ0 : Hid ((((w.alloc (PB s n d r l b g k)).alloc (.cells #[.int .i64 4, .int .i64 N, .int .i64 D, .int .i64 V] 82)).alloc (PB 0 0 0 0 0 0 0 0)).heap[w.heap.size + 1 + 1]? = some (PB 0 0 0 0 0 0 0 0)) := al_at ((w.alloc (PB s n d r l b g k)).alloc (.cells #[.int .i64 4, .int .i64 N, .int .i64 D, .int .i64 V] 82)) _ (by simp)
  have p0 := box8_cells HP0.out
  have o0 := box4_cells HO0.out
  go_enter Tryz.func73, Tryz.ntmps73
  go_wp2_with (refine listStoreC rfl rfl _ _ _ rfl rfl w.heap.size 0 (k) rfl rfl HP0.out (by simp) ?_)
  intro w1 hr ho hs hB
  have HB1 : Hid (Below w.heap.size w w1) := hB _ _ (Nat.le_refl _) HB0.out
  have HP1 : Hid (w1.heap[w.heap.size]? = some (PB k n d r l b g k)) := hr
  have HO1 : Hid (w1.heap[w.heap.size + 1]? = some (.cells #[.int .i64 4, .int .i64 N, .int .i64 D, .int .i64 V] 82)) := (ho _ (by omega)).trans HO0.out
  have HZ1 : Hid (w1.heap[w.heap.size + 1 + 1]? = some (PB 0 0 0 0 0 0 0 0)) := (ho _ (by omega)).trans HZ0.out
  have p1 := box8_cells HP1.out
  have o1 := box4_cells HO1.out
  clear hr ho hs hB HB0 HP0 HO0 HZ0 p0 o0
  go_wp2_with (refine listStoreC rfl rfl _ _ _ rfl rfl w.heap.size 7 (0) rfl rfl HP1.out (by simp) ?_)
  intro w2 hr ho hs hB
  have HB2 : Hid (Below w.heap.size w w2) := hB _ _ (Nat.le_refl _) HB1.out
  have HP2 : Hid (w2.heap[w.heap.size]? = some (PB k n d r l b g 0)) := hr
  have HO2 : Hid (w2.heap[w.heap.size + 1]? = some (.cells #[.int .i64 4, .int .i64 N, .int .i64 D, .int .i64 V] 82)) := (ho _ (by omega)).trans HO1.out
  have HZ2 : Hid (w2.heap[w.heap.size + 1 + 1]? = some (PB 0 0 0 0 0 0 0 0)) := (ho _ (by omega)).trans HZ1.out
  have p2 := box8_cells HP2.out
  have o2 := box4_cells HO2.out
  clear hr ho hs hB HB1 HP1 HO1 HZ1 p1 o1
  go_upto_region 3 with fail
  go_wp2_with (refine listStoreP rfl rfl _ _ _ rfl rfl (w.heap.size + 1 + 1) (k) (n) (d) (r) (l) (b) (g) (0) rfl rfl HZ2.out ?_)
  intro w99 hr9 ho9 hs9 hB9
  have HF : Hid (Below w.heap.size w w99) := hB9 _ _ (le2 _) HB2.out
  obtain ⟨⟨q0, q1, q2, q3, q4, q5, q6, q7⟩, _⟩ := box8_cells hr9
  clear ho9 hs9 hB9 hr9
  go_wp2
  refine bodyPost_ret (v := .tuple #[PV k n d r l b g 0, .bool true]) (by simp only [results, Tryz.results73]; simp [go_sem, q0, q1, q2, q3, q4, q5, q6, q7]) rfl ⟨rfl, HF.out⟩
set_option maxRecDepth 100000 in
set_option maxHeartbeats 4000000 in
theorem pauI_n (s n d r l b g k K N D V : Int) (h4 : (K == 4) = false) {z0 z1 z2 z3 z4 z5 z6 z7 : Int} {y : Bool} (KT : Hid (∀ w, Calls Tryz.prog 105 #[PV s n d r l b g k, .agg #[.int .i64 K, .int .i64 N, .int .i64 D, .int .i64 V]] w fun e w' => e = .returned (.tuple #[PV z0 z1 z2 z3 z4 z5 z6 z7, .bool y]) ∧ Below w.heap.size w w')) (w : World) : Calls Tryz.prog 73 #[PV s n d r l b g k, .agg #[.int .i64 K, .int .i64 N, .int .i64 D, .int .i64 V]] w fun e w' => e = .returned (.tuple #[PV z0 z1 z2 z3 z4 z5 z6 z7, .bool y]) ∧ Below w.heap.size w w' := by
  have HB0 : Hid (Below w.heap.size w (((w.alloc (PB s n d r l b g k)).alloc (.cells #[.int .i64 K, .int .i64 N, .int .i64 D, .int .i64 V] 82)).alloc (PB 0 0 0 0 0 0 0 0))) := bel_on (Nat.le_refl _) (bel_on (Nat.le_refl _) (alP _ _) (alP _ _)) (alP _ _)
  have HP0 : Hid ((((w.alloc (PB s n d r l b g k)).alloc (.cells #[.int .i64 K, .int .i64 N, .int .i64 D, .int .i64 V] 82)).alloc (PB 0 0 0 0 0 0 0 0)).heap[w.heap.size]? = some (PB s n d r l b g k)) := row_on (row_on (heap_new w _) (alP _ _)) (alP _ _)
  have HO0 : Hid ((((w.alloc (PB s n d r l b g k)).alloc (.cells #[.int .i64 K, .int .i64 N, .int .i64 D, .int .i64 V] 82)).alloc (PB 0 0 0 0 0 0 0 0)).heap[w.heap.size + 1]? = some (.cells #[.int .i64 K, .int .i64 N, .int .i64 D, .int .i64 V] 82)) := row_on (al_at (w.alloc (PB s n d r l b g k)) _ (by simp)) (alP _ _)
  have HZ0 : Hid ((((w.alloc (PB s n d r l b g k)).alloc (.cells #[.int .i64 K, .int .i64 N, .int .i64 D, .int .i64 V] 82)).alloc (PB 0 0 0 0 0 0 0 0)).heap[w.heap.size + 1 + 1]? = some (PB 0 0 0 0 0 0 0 0)) := al_at ((w.alloc (PB s n d r l b g k)).alloc (.cells #[.int .i64 K, .int .i64 N, .int .i64 D, .int .i64 V] 82)) _ (by simp)
  have p0 := box8_cells HP0.out
  have o0 := box4_cells HO0.out
  go_enter Tryz.func73, Tryz.ntmps73
  go_wp2_with fail
  refine Calls.mono (KT.out _) ?_
  rintro e w1 ⟨rfl, hb⟩
  have HB1 : Hid (Below w.heap.size w w1) := bel_on (Nat.le_refl _) HB0.out hb
  have HP1 : Hid (w1.heap[w.heap.size]? = some (PB s n d r l b g k)) := row_on HP0.out hb
  have HO1 : Hid (w1.heap[w.heap.size + 1]? = some (.cells #[.int .i64 K, .int .i64 N, .int .i64 D, .int .i64 V] 82)) := row_on HO0.out hb
  have HZ1 : Hid (w1.heap[w.heap.size + 1 + 1]? = some (PB 0 0 0 0 0 0 0 0)) := row_on HZ0.out hb
  have p1 := box8_cells HP1.out
  have o1 := box4_cells HO1.out
  clear hb HB0 HP0 HO0 HZ0 p0 o0
  go_wp2_with (refine listStoreP rfl rfl _ _ _ rfl rfl (w.heap.size + 1 + 1) (z0) (z1) (z2) (z3) (z4) (z5) (z6) (z7) rfl rfl HZ1.out ?_)
  intro w99 hr9 ho9 hs9 hB9
  have HF : Hid (Below w.heap.size w w99) := hB9 _ _ (le2 _) HB1.out
  obtain ⟨⟨q0, q1, q2, q3, q4, q5, q6, q7⟩, _⟩ := box8_cells hr9
  clear ho9 hs9 hB9 hr9
  go_wp2
  refine bodyPost_ret (v := .tuple #[PV z0 z1 z2 z3 z4 z5 z6 z7, .bool y]) (by simp only [results, Tryz.results73]; simp [go_sem, q0, q1, q2, q3, q4, q5, q6, q7]) rfl ⟨rfl, HF.out⟩
end Go.Proofs.YtdifmjcghaoilaaGreatDoor

namespace Go.Proofs.YtdifmjcghaoilaaGreatDoor
open Go.RowKit Go.PlainAid
set_option linter.unusedVariables false
set_option linter.unusedSimpArgs false

/-- a boxed pump behind what only grew -/
def KP (w w' : World) (o : Obj) : Prop := w'.heap[w.heap.size]? = some o ∧ Below w.heap.size w w'
theorem KP.on {w w' w2 : World} {x0 x1 x2 x3 x4 x5 x6 x7 : Value} {T : TypeId} (h : KP w w' (.cells #[x0, x1, x2, x3, x4, x5, x6, x7] T)) (hb : Below w'.heap.size w' w2) : KP w w2 (.cells #[x0, x1, x2, x3, x4, x5, x6, x7] T) := ⟨row_on h.1 hb, bel_on (Nat.le_refl _) h.2 hb⟩
theorem kp_conj {w w' : World} {x0 x1 x2 x3 x4 x5 x6 x7 : Value} {T : TypeId} (h : KP w w' (.cells #[x0, x1, x2, x3, x4, x5, x6, x7] T)) :
    w'.cell? ⟨w.heap.size, 0, none⟩ = some x0 ∧ w'.cell? ⟨w.heap.size, 1, none⟩ = some x1 ∧ w'.cell? ⟨w.heap.size, 2, none⟩ = some x2 ∧ w'.cell? ⟨w.heap.size, 3, none⟩ = some x3 ∧ w'.cell? ⟨w.heap.size, 4, none⟩ = some x4 ∧ w'.cell? ⟨w.heap.size, 5, none⟩ = some x5 ∧ w'.cell? ⟨w.heap.size, 6, none⟩ = some x6 ∧ w'.cell? ⟨w.heap.size, 7, none⟩ = some x7 ∧ KP w w' (.cells #[x0, x1, x2, x3, x4, x5, x6, x7] T) := by
  obtain ⟨⟨a0, a1, a2, a3, a4, a5, a6, a7⟩, _⟩ := box8_cells h.1
  exact ⟨a0, a1, a2, a3, a4, a5, a6, a7, h⟩
end Go.Proofs.YtdifmjcghaoilaaGreatDoor

namespace Go.Proofs.YtdifmjcghaoilaaGreatDoor
open Go.RowKit Go.PlainAid
set_option linter.unusedVariables false
set_option linter.unusedSimpArgs false

/-- boxed bounds behind what only grew -/
def KQ (w w' : World) (Q : Nat) (x y : Value) (T : TypeId) : Prop := w'.heap[Q]? = some (.cells #[x, y] T) ∧ Below w.heap.size w w'
theorem row2_on {w w' : World} {k : Nat} {t : TypeId} {x y : Value} (h : w.heap[k]? = some (.cells #[x, y] t)) (hb : Below w.heap.size w w') : w'.heap[k]? = some (.cells #[x, y] t) := by
  have hlt : k < w.heap.size := by
    rcases Nat.lt_or_ge k w.heap.size with h' | h'
    · exact h'
    · rw [Array.getElem?_eq_none h'] at h; cases h
  rw [hb.block k hlt]
  exact h
theorem KQ.on {w w' w2 : World} {Q : Nat} {x y : Value} {T : TypeId} (h : KQ w w' Q x y T) (hb : Below w'.heap.size w' w2) : KQ w w2 Q x y T := ⟨row2_on h.1 hb, bel_on (Nat.le_refl _) h.2 hb⟩
theorem kq_conj {w w' : World} {Q : Nat} {x y : Value} {T : TypeId} (h : KQ w w' Q x y T) : w'.cell? ⟨Q, 0, none⟩ = some x ∧ w'.cell? ⟨Q, 1, none⟩ = some y ∧ KQ w w' Q x y T := by
  refine ⟨?_, ?_, h⟩ <;> simp [World.cell?, h.1]
set_option maxRecDepth 100000 in
set_option maxHeartbeats 2000000 in
theorem addI (a b x y t z : Int) (hx : Hid (min (max a (-1000000000000)) 1000000000000 = x)) (hy : Hid (min (max b (-1000000000000)) 1000000000000 = y)) (ht : IntKind.i64.wrap (x + y) = t) (hz : Hid (min (max t (-1000000000000)) 1000000000000 = z)) (w : World) : Calls Tryz.prog 124 #[.int .i64 a, .int .i64 b] w fun e w' => e = .returned (.int .i64 z) ∧ Below w.heap.size w w' := by
  go_enter Tryz.func124, Tryz.ntmps124
  go_wp2_with fail
  refine (bigI _).mono ?_
  rintro e w1 ⟨rfl, hb1⟩
  have HK0 : Hid (KQ w (w1.alloc (.cells #[.int .i64 (-1000000000000), .int .i64 1000000000000] 108)).drew w1.heap.size (.int .i64 (-1000000000000)) (.int .i64 1000000000000) 108) := ⟨heap_new w1 _, Below.drew (bel_on (Nat.le_refl _) hb1 (alP _ _))⟩
  clear hb1
  go_wp2_with fail
  refine wp_region_held_drew (S := fun w' => w'.cell? ⟨w1.heap.size, 0, none⟩ = some (.int .i64 (-1000000000000)) ∧ w'.cell? ⟨w1.heap.size, 1, none⟩ = some (.int .i64 1000000000000) ∧ KQ w w' w1.heap.size (.int .i64 (-1000000000000)) (.int .i64 1000000000000) 108) (by kernel_rfl) (kq_conj HK0.out) (fun hHeld => ?_)
  refine tkA (i := 0) (v := ?_) rfl (Or.inl ⟨by rfl, ?_⟩) ?_
  rotate_left
  · intro w_ hSw; (try dsimp only at hSw); go_simp <;> with_reducible rfl
  try simp only [Act.put, sA, sB, sC, sD, sE, sF]
  refine tkA (i := 1) (v := ?_) rfl (Or.inl ⟨by rfl, ?_⟩) ?_
  rotate_left
  · intro w_ hSw; (try dsimp only at hSw); go_simp <;> with_reducible rfl
  try simp only [Act.put, sA, sB, sC, sD, sE, sF]
  refine tkA (i := 2) (v := ?_) rfl (Or.inl ⟨by rfl, ?_⟩) ?_
  rotate_left
  · intro w_ hSw; (try dsimp only at hSw); go_simp <;> with_reducible rfl
  try simp only [Act.put, sA, sB, sC, sD, sE, sF]
  refine tkA (i := 4) (v := ?_) rfl (Or.inl ⟨by rfl, ?_⟩) ?_
  rotate_left
  · intro w_ hSw; (try dsimp only at hSw); go_simp <;> with_reducible rfl
  try simp only [Act.put, sA, sB, sC, sD, sE, sF]
  refine tkA (i := 5) (v := ?_) rfl (Or.inl ⟨by rfl, ?_⟩) ?_
  rotate_left
  · intro w_ hSw; (try dsimp only at hSw); go_simp <;> with_reducible rfl
  try simp only [Act.put, sA, sB, sC, sD, sE, sF]
  refine wpAnyH_ready (rs := [3]) (by kernel_rfl) (by simp) ?_
  refine AllReadyH.cons rfl (fun K hK => ?_) AllReadyH.nil
  go_simp
  go_at_call 51
  refine Calls.mono (intoI _ _ a x hx.out _) ?_
  rintro e v1 ⟨rfl, hbc⟩
  have HK1 : Hid (KQ w v1 w1.heap.size (.int .i64 (-1000000000000)) (.int .i64 1000000000000) 108) := HK0.out.on hbc
  go_wp2_with fail
  refine hK.out _ _ ?_ (fun hHeld1 => ?_)
  · exact kq_conj HK1.out
  clear hK K hbc HK0
  try simp only [Act.put, sA, sB, sC, sD, sE, sF]
  refine wpAnyH_ready (rs := [6]) (by kernel_rfl) (by simp) ?_
  refine AllReadyH.cons rfl (fun K hK => ?_) AllReadyH.nil
  go_simp
  go_at_call 51
  refine Calls.mono (intoI _ _ b y hy.out _) ?_
  rintro e v2 ⟨rfl, hbc⟩
  have HK2 : Hid (KQ w v2 w1.heap.size (.int .i64 (-1000000000000)) (.int .i64 1000000000000) 108) := HK1.out.on hbc
  go_wp2_with fail
  refine hK.out _ _ ?_ (fun hHeld2 => ?_)
  · exact kq_conj HK2.out
  clear hK K hbc HK1
  try simp only [Act.put, sA, sB, sC, sD, sE, sF]
  refine tkA (i := 7) (v := ?_) rfl (Or.inl ⟨by rfl, ?_⟩) ?_
  rotate_left
  · intro w_ hSw; (try dsimp only at hSw); go_simp <;> with_reducible rfl
  try simp only [Act.put, sA, sB, sC, sD, sE, sF]
  refine wpAnyH_ready (rs := [8]) (by kernel_rfl) (by simp) ?_
  refine AllReadyH.cons rfl (fun K hK => ?_) AllReadyH.nil
  go_simp
  go_at_call 51
  refine Calls.mono (intoI _ _ t z hz.out _) ?_
  rintro e v3 ⟨rfl, hbc⟩
  have HK3 : Hid (KQ w v3 w1.heap.size (.int .i64 (-1000000000000)) (.int .i64 1000000000000) 108) := HK2.out.on hbc
  go_wp2_with fail
  refine hK.out _ _ ?_ (fun hHeld3 => ?_)
  · exact kq_conj HK3.out
  clear hK K hbc HK2
  try simp only [Act.put, sA, sB, sC, sD, sE, sF]
  refine tkA (i := 9) (v := ?_) rfl (Or.inl ⟨by rfl, ?_⟩) ?_
  rotate_left
  · intro w_ hSw; (try dsimp only at hSw); go_simp <;> with_reducible rfl
  try simp only [Act.put, sA, sB, sC, sD, sE, sF]
  refine wpAnyH_done (by kernel_rfl) ?_ _
  go_wp2
  go_ret
  exact ⟨rfl, HK3.out.2⟩
set_option maxRecDepth 100000 in
set_option maxHeartbeats 2000000 in
theorem kpuI (s n d r l b g k r' y q z : Int) (KR : Hid (∀ w, Calls Tryz.prog 123 #[.agg #[.int .i64 n, .int .i64 d, .int .i64 r]] w fun e w' => e = .returned (.tuple #[.agg #[.int .i64 n, .int .i64 d, .int .i64 r'], .int .i64 y]) ∧ Below w.heap.size w w')) (hq : Hid (min b 3 = q)) (hz : IntKind.i64.wrap (y + q) = z) (w : World) : Calls Tryz.prog 71 #[PV s n d r l b g k] w fun e w' => e = .returned (.int .i64 z) ∧ Below w.heap.size w w' := by
  have HB0 : Hid (Below w.heap.size w (w.alloc (PB s n d r l b g k))) := alP _ _
  have HP0 : Hid ((w.alloc (PB s n d r l b g k)).heap[w.heap.size]? = some (PB s n d r l b g k)) := heap_new w _
  have p0 := box8_cells HP0.out
  have HK0 : Hid (KP w (w.alloc (PB s n d r l b g k)).drew (PB s n d r l b g k)) := ⟨HP0.out, HB0.out.drew⟩
  go_enter Tryz.func71, Tryz.ntmps71
  go_wp2_with fail
  clear p0 HB0 HP0
  refine wp_region_held_drew (S := fun w' => w'.cell? ⟨w.heap.size, 0, none⟩ = some (.int .i64 s) ∧ w'.cell? ⟨w.heap.size, 1, none⟩ = some (.int .i64 n) ∧ w'.cell? ⟨w.heap.size, 2, none⟩ = some (.int .i64 d) ∧ w'.cell? ⟨w.heap.size, 3, none⟩ = some (.int .i64 r) ∧ w'.cell? ⟨w.heap.size, 4, none⟩ = some (.int .i64 l) ∧ w'.cell? ⟨w.heap.size, 5, none⟩ = some (.int .i64 b) ∧ w'.cell? ⟨w.heap.size, 6, none⟩ = some (.int .i64 g) ∧ w'.cell? ⟨w.heap.size, 7, none⟩ = some (.int .i64 k) ∧ KP w w' (PB s n d r l b g k)) (by kernel_rfl) (kp_conj HK0.out) (fun hHeld => ?_)
  refine tkA (i := 0) (v := ?_) rfl (Or.inl ⟨by rfl, ?_⟩) ?_
  rotate_left
  · intro w_ hSw; (try dsimp only at hSw); go_simp <;> with_reducible rfl
  try simp only [Act.put, sA, sB, sC, sD, sE, sF]
  refine tkA (i := 2) (v := ?_) rfl (Or.inl ⟨by rfl, ?_⟩) ?_
  rotate_left
  · intro w_ hSw; (try dsimp only at hSw); go_simp <;> with_reducible rfl
  try simp only [Act.put, sA, sB, sC, sD, sE, sF]
  refine wpAnyH_ready (rs := [1]) (by kernel_rfl) (by simp) ?_
  refine AllReadyH.cons rfl (fun K hK => ?_) AllReadyH.nil
  go_simp
  go_at_call 106
  refine Calls.mono (rtpI s n d r l b g k r' y KR _) ?_
  rintro e v1 ⟨rfl, hbc⟩
  have HK1 : Hid (KP w v1 (PB s n d r l b g k)) := HK0.out.on hbc
  go_wp2_with fail
  refine hK.out _ _ ?_ (fun hHeld1 => ?_)
  · exact kp_conj HK1.out
  clear hK K hbc HK0
  try simp only [Act.put, sA, sB, sC, sD, sE, sF]
  refine wpAnyH_ready (rs := [3]) (by kernel_rfl) (by simp) ?_
  refine AllReadyH.cons rfl (fun K hK => ?_) AllReadyH.nil
  go_simp
  go_at_call 107
  refine Calls.mono (bolI s n d r l b g k q hq.out _) ?_
  rintro e v2 ⟨rfl, hbc⟩
  have HK2 : Hid (KP w v2 (PB s n d r l b g k)) := HK1.out.on hbc
  go_wp2_with fail
  refine hK.out _ _ ?_ (fun hHeld2 => ?_)
  · exact kp_conj HK2.out
  clear hK K hbc HK1
  try simp only [Act.put, sA, sB, sC, sD, sE, sF]
  refine tkA (i := 4) (v := ?_) rfl (Or.inl ⟨by rfl, ?_⟩) ?_
  rotate_left
  · intro w_ hSw; (try dsimp only at hSw); go_simp <;> with_reducible rfl
  try simp only [Act.put, sA, sB, sC, sD, sE, sF]
  refine tkA (i := 5) (v := ?_) rfl (Or.inl ⟨by rfl, ?_⟩) ?_
  rotate_left
  · intro w_ hSw; (try dsimp only at hSw); go_simp <;> with_reducible rfl
  try simp only [Act.put, sA, sB, sC, sD, sE, sF]
  refine wpAnyH_done (by kernel_rfl) ?_ _
  go_wp2
  go_ret
  exact ⟨rfl, HK2.out.2⟩
set_option maxRecDepth 100000 in
set_option maxHeartbeats 2000000 in
theorem bpuI_y (s n d r l b g k r' y q z : Int) (KR : Hid (∀ w, Calls Tryz.prog 123 #[.agg #[.int .i64 n, .int .i64 d, .int .i64 r]] w fun e w' => e = .returned (.tuple #[.agg #[.int .i64 n, .int .i64 d, .int .i64 r'], .int .i64 y]) ∧ Below w.heap.size w w')) (hm : y ≤ l) (hq : Hid (min b 3 = q)) (hz : IntKind.i64.wrap (y + q) = z) (w : World) : Calls Tryz.prog 68 #[PV s n d r l b g k] w fun e w' => e = .returned (.int .i64 z) ∧ Below w.heap.size w w' := by
  have HB0 : Hid (Below w.heap.size w (w.alloc (PB s n d r l b g k))) := alP _ _
  have HP0 : Hid ((w.alloc (PB s n d r l b g k)).heap[w.heap.size]? = some (PB s n d r l b g k)) := heap_new w _
  have p0 := box8_cells HP0.out
  have HK0 : Hid (KP w (w.alloc (PB s n d r l b g k)).drew (PB s n d r l b g k)) := ⟨HP0.out, HB0.out.drew⟩
  go_enter Tryz.func68, Tryz.ntmps68
  go_wp2_with fail
  clear p0 HB0 HP0
  refine wp_region_held_drew (S := fun w' => w'.cell? ⟨w.heap.size, 0, none⟩ = some (.int .i64 s) ∧ w'.cell? ⟨w.heap.size, 1, none⟩ = some (.int .i64 n) ∧ w'.cell? ⟨w.heap.size, 2, none⟩ = some (.int .i64 d) ∧ w'.cell? ⟨w.heap.size, 3, none⟩ = some (.int .i64 r) ∧ w'.cell? ⟨w.heap.size, 4, none⟩ = some (.int .i64 l) ∧ w'.cell? ⟨w.heap.size, 5, none⟩ = some (.int .i64 b) ∧ w'.cell? ⟨w.heap.size, 6, none⟩ = some (.int .i64 g) ∧ w'.cell? ⟨w.heap.size, 7, none⟩ = some (.int .i64 k) ∧ KP w w' (PB s n d r l b g k)) (by kernel_rfl) (kp_conj HK0.out) (fun hHeld => ?_)
  refine tkA (i := 0) (v := ?_) rfl (Or.inl ⟨by rfl, ?_⟩) ?_
  rotate_left
  · intro w_ hSw; (try dsimp only at hSw); go_simp <;> with_reducible rfl
  try simp only [Act.put, sA, sB, sC, sD, sE, sF]
  refine tkA (i := 2) (v := ?_) rfl (Or.inl ⟨by rfl, ?_⟩) ?_
  rotate_left
  · intro w_ hSw; (try dsimp only at hSw); go_simp <;> with_reducible rfl
  try simp only [Act.put, sA, sB, sC, sD, sE, sF]
  refine tkA (i := 3) (v := ?_) rfl (Or.inl ⟨by rfl, ?_⟩) ?_
  rotate_left
  · intro w_ hSw; (try dsimp only at hSw); go_simp <;> with_reducible rfl
  try simp only [Act.put, sA, sB, sC, sD, sE, sF]
  refine tkA (i := 5) (v := ?_) rfl (Or.inl ⟨by rfl, ?_⟩) ?_
  rotate_left
  · intro w_ hSw; (try dsimp only at hSw); go_simp <;> with_reducible rfl
  try simp only [Act.put, sA, sB, sC, sD, sE, sF]
  refine wpAnyH_ready (rs := [1]) (by kernel_rfl) (by simp) ?_
  refine AllReadyH.cons rfl (fun K hK => ?_) AllReadyH.nil
  go_simp
  go_at_call 106
  refine Calls.mono (rtpI s n d r l b g k r' y KR _) ?_
  rintro e v1 ⟨rfl, hbc⟩
  have HK1 : Hid (KP w v1 (PB s n d r l b g k)) := HK0.out.on hbc
  go_wp2_with fail
  refine hK.out _ _ ?_ (fun hHeld1 => ?_)
  · exact kp_conj HK1.out
  clear hK K hbc HK0
  try simp only [Act.put, sA, sB, sC, sD, sE, sF]
  refine tkA (i := 4) (v := ?_) rfl (Or.inl ⟨by rfl, ?_⟩) ?_
  rotate_left
  · intro w_ hSw; (try dsimp only at hSw); go_simp <;> with_reducible rfl
  try simp only [Act.put, sA, sB, sC, sD, sE, sF]
  refine wpAnyH_ready (rs := [6]) (by kernel_rfl) (by simp) ?_
  refine AllReadyH.cons rfl (fun K hK => ?_) AllReadyH.nil
  go_simp
  go_at_call 107
  refine Calls.mono (bolI s n d r l b g k q hq.out _) ?_
  rintro e v2 ⟨rfl, hbc⟩
  have HK2 : Hid (KP w v2 (PB s n d r l b g k)) := HK1.out.on hbc
  go_wp2_with fail
  refine hK.out _ _ ?_ (fun hHeld2 => ?_)
  · exact kp_conj HK2.out
  clear hK K hbc HK1
  try simp only [Act.put, sA, sB, sC, sD, sE, sF]
  refine tkA (i := 7) (v := ?_) rfl (Or.inl ⟨by rfl, ?_⟩) ?_
  rotate_left
  · intro w_ hSw; (try dsimp only at hSw); go_simp <;> with_reducible rfl
  try simp only [Act.put, sA, sB, sC, sD, sE, sF]
  refine tkA (i := 8) (v := ?_) rfl (Or.inl ⟨by rfl, ?_⟩) ?_
  rotate_left
  · intro w_ hSw; (try dsimp only at hSw); go_simp <;> with_reducible rfl
  try simp only [Act.put, sA, sB, sC, sD, sE, sF]
  refine wpAnyH_done (by kernel_rfl) ?_ _
  go_wp2
  go_ret
  exact ⟨rfl, HK2.out.2⟩
set_option maxRecDepth 100000 in
set_option maxHeartbeats 2000000 in
theorem bpuI_l (s n d r l b g k r' y q z : Int) (KR : Hid (∀ w, Calls Tryz.prog 123 #[.agg #[.int .i64 n, .int .i64 d, .int .i64 r]] w fun e w' => e = .returned (.tuple #[.agg #[.int .i64 n, .int .i64 d, .int .i64 r'], .int .i64 y]) ∧ Below w.heap.size w w')) (hm : ¬ y ≤ l) (hq : Hid (min b 3 = q)) (hz : IntKind.i64.wrap (l + q) = z) (w : World) : Calls Tryz.prog 68 #[PV s n d r l b g k] w fun e w' => e = .returned (.int .i64 z) ∧ Below w.heap.size w w' := by
  have HB0 : Hid (Below w.heap.size w (w.alloc (PB s n d r l b g k))) := alP _ _
  have HP0 : Hid ((w.alloc (PB s n d r l b g k)).heap[w.heap.size]? = some (PB s n d r l b g k)) := heap_new w _
  have p0 := box8_cells HP0.out
  have HK0 : Hid (KP w (w.alloc (PB s n d r l b g k)).drew (PB s n d r l b g k)) := ⟨HP0.out, HB0.out.drew⟩
  go_enter Tryz.func68, Tryz.ntmps68
  go_wp2_with fail
  clear p0 HB0 HP0
  refine wp_region_held_drew (S := fun w' => w'.cell? ⟨w.heap.size, 0, none⟩ = some (.int .i64 s) ∧ w'.cell? ⟨w.heap.size, 1, none⟩ = some (.int .i64 n) ∧ w'.cell? ⟨w.heap.size, 2, none⟩ = some (.int .i64 d) ∧ w'.cell? ⟨w.heap.size, 3, none⟩ = some (.int .i64 r) ∧ w'.cell? ⟨w.heap.size, 4, none⟩ = some (.int .i64 l) ∧ w'.cell? ⟨w.heap.size, 5, none⟩ = some (.int .i64 b) ∧ w'.cell? ⟨w.heap.size, 6, none⟩ = some (.int .i64 g) ∧ w'.cell? ⟨w.heap.size, 7, none⟩ = some (.int .i64 k) ∧ KP w w' (PB s n d r l b g k)) (by kernel_rfl) (kp_conj HK0.out) (fun hHeld => ?_)
  refine tkA (i := 0) (v := ?_) rfl (Or.inl ⟨by rfl, ?_⟩) ?_
  rotate_left
  · intro w_ hSw; (try dsimp only at hSw); go_simp <;> with_reducible rfl
  try simp only [Act.put, sA, sB, sC, sD, sE, sF]
  refine tkA (i := 2) (v := ?_) rfl (Or.inl ⟨by rfl, ?_⟩) ?_
  rotate_left
  · intro w_ hSw; (try dsimp only at hSw); go_simp <;> with_reducible rfl
  try simp only [Act.put, sA, sB, sC, sD, sE, sF]
  refine tkA (i := 3) (v := ?_) rfl (Or.inl ⟨by rfl, ?_⟩) ?_
  rotate_left
  · intro w_ hSw; (try dsimp only at hSw); go_simp <;> with_reducible rfl
  try simp only [Act.put, sA, sB, sC, sD, sE, sF]
  refine tkA (i := 5) (v := ?_) rfl (Or.inl ⟨by rfl, ?_⟩) ?_
  rotate_left
  · intro w_ hSw; (try dsimp only at hSw); go_simp <;> with_reducible rfl
  try simp only [Act.put, sA, sB, sC, sD, sE, sF]
  refine wpAnyH_ready (rs := [1]) (by kernel_rfl) (by simp) ?_
  refine AllReadyH.cons rfl (fun K hK => ?_) AllReadyH.nil
  go_simp
  go_at_call 106
  refine Calls.mono (rtpI s n d r l b g k r' y KR _) ?_
  rintro e v1 ⟨rfl, hbc⟩
  have HK1 : Hid (KP w v1 (PB s n d r l b g k)) := HK0.out.on hbc
  go_wp2_with fail
  refine hK.out _ _ ?_ (fun hHeld1 => ?_)
  · exact kp_conj HK1.out
  clear hK K hbc HK0
  try simp only [Act.put, sA, sB, sC, sD, sE, sF]
  refine tkA (i := 4) (v := ?_) rfl (Or.inl ⟨by rfl, ?_⟩) ?_
  rotate_left
  · intro w_ hSw; (try dsimp only at hSw); go_simp <;> with_reducible rfl
  try simp only [Act.put, sA, sB, sC, sD, sE, sF]
  refine wpAnyH_ready (rs := [6]) (by kernel_rfl) (by simp) ?_
  refine AllReadyH.cons rfl (fun K hK => ?_) AllReadyH.nil
  go_simp
  go_at_call 107
  refine Calls.mono (bolI s n d r l b g k q hq.out _) ?_
  rintro e v2 ⟨rfl, hbc⟩
  have HK2 : Hid (KP w v2 (PB s n d r l b g k)) := HK1.out.on hbc
  go_wp2_with fail
  refine hK.out _ _ ?_ (fun hHeld2 => ?_)
  · exact kp_conj HK2.out
  clear hK K hbc HK1
  try simp only [Act.put, sA, sB, sC, sD, sE, sF]
  refine tkA (i := 7) (v := ?_) rfl (Or.inl ⟨by rfl, ?_⟩) ?_
  rotate_left
  · intro w_ hSw; (try dsimp only at hSw); go_simp <;> with_reducible rfl
  try simp only [Act.put, sA, sB, sC, sD, sE, sF]
  refine tkA (i := 8) (v := ?_) rfl (Or.inl ⟨by rfl, ?_⟩) ?_
  rotate_left
  · intro w_ hSw; (try dsimp only at hSw); go_simp <;> with_reducible rfl
  try simp only [Act.put, sA, sB, sC, sD, sE, sF]
  refine wpAnyH_done (by kernel_rfl) ?_ _
  go_wp2
  go_ret
  exact ⟨rfl, HK2.out.2⟩
set_option maxRecDepth 100000 in
set_option maxHeartbeats 4000000 in
theorem tikI_a (s n d r l b g k a r' y q B G : Int) (KR : Hid (∀ w, Calls Tryz.prog 123 #[.agg #[.int .i64 n, .int .i64 d, .int .i64 r]] w fun e w' => e = .returned (.tuple #[.agg #[.int .i64 n, .int .i64 d, .int .i64 r'], .int .i64 y]) ∧ Below w.heap.size w w')) (KA : Hid (∀ w, Calls Tryz.prog 124 #[.int .i64 g, .int .i64 a] w fun e w' => e = .returned (.int .i64 G) ∧ Below w.heap.size w w')) (hq : Hid (min b 3 = q)) (hm : a ≤ q) (eB : IntKind.i64.wrap (b - a) = B) (w : World) : Calls Tryz.prog 108 #[PV s n d r l b g k, .int .i64 a] w fun e w' => e = .returned (.tuple #[PV s n d r' l B G k, .int .i64 0]) ∧ Below w.heap.size w w' := by
  have HB0 : Hid (Below w.heap.size w ((w.alloc (PB s n d r l b g k)).alloc (PB 0 0 0 0 0 0 0 0))) := bel_on (Nat.le_refl _) (alP _ _) (alP _ _)
  have HP0 : Hid (((w.alloc (PB s n d r l b g k)).alloc (PB 0 0 0 0 0 0 0 0)).heap[w.heap.size]? = some (PB s n d r l b g k)) := row_on (heap_new w _) (alP _ _)
  have HZ0 : Hid (((w.alloc (PB s n d r l b g k)).alloc (PB 0 0 0 0 0 0 0 0)).heap[w.heap.size + 1]? = some (PB 0 0 0 0 0 0 0 0)) := al_at (w.alloc (PB s n d r l b g k)) _ (by simp)
  have p0 := box8_cells HP0.out
  go_enter Tryz.func108, Tryz.ntmps108
  go_wp2_with fail
  refine Calls.mono (bolI s n d r l b g k q hq.out _) ?_
  rintro e w1 ⟨rfl, hb⟩
  have HB1 : Hid (Below w.heap.size w w1) := bel_on (Nat.le_refl _) HB0.out hb
  have HP1 : Hid (w1.heap[w.heap.size]? = some (PB s n d r l b g k)) := row_on HP0.out hb
  have HZ1 : Hid (w1.heap[w.heap.size + 1]? = some (PB 0 0 0 0 0 0 0 0)) := row_on HZ0.out hb
  have p1 := box8_cells HP1.out
  clear hb HB0 HP0 HZ0 p0
  go_wp2_with fail
  refine Calls.mono (KR.out _) ?_
  rintro e w2 ⟨rfl, hb⟩
  have HB2 : Hid (Below w.heap.size w w2) := bel_on (Nat.le_refl _) HB1.out hb
  have HP2 : Hid (w2.heap[w.heap.size]? = some (PB s n d r l b g k)) := row_on HP1.out hb
  have HZ2 : Hid (w2.heap[w.heap.size + 1]? = some (PB 0 0 0 0 0 0 0 0)) := row_on HZ1.out hb
  have p2 := box8_cells HP2.out
  clear hb HB1 HP1 HZ1 p1
  go_wp2_with (refine listStoreR rfl rfl _ _ _ rfl rfl w.heap.size (n) (d) (r') rfl rfl HP2.out ?_)
  intro w3 hr ho hs hB
  have HB3 : Hid (Below w.heap.size w w3) := hB _ _ (Nat.le_refl _) HB2.out
  have HP3 : Hid (w3.heap[w.heap.size]? = some (PB s n d r' l b g k)) := hr
  have HZ3 : Hid (w3.heap[w.heap.size + 1]? = some (PB 0 0 0 0 0 0 0 0)) := (ho _ (by omega)).trans HZ2.out
  have p3 := box8_cells HP3.out
  clear hr ho hs hB HB2 HP2 HZ2 p2
  go_upto_region 3 with fail
  go_wp2_with (refine listStoreC rfl rfl _ _ _ rfl rfl w.heap.size 5 (B) rfl rfl HP3.out (by simp) ?_)
  intro w4 hr ho hs hB
  have HB4 : Hid (Below w.heap.size w w4) := hB _ _ (Nat.le_refl _) HB3.out
  have HP4 : Hid (w4.heap[w.heap.size]? = some (PB s n d r' l B g k)) := hr
  have HZ4 : Hid (w4.heap[w.heap.size + 1]? = some (PB 0 0 0 0 0 0 0 0)) := (ho _ (by omega)).trans HZ3.out
  have p4 := box8_cells HP4.out
  clear hr ho hs hB HB3 HP3 HZ3 p3
  go_wp2_with fail
  refine Calls.mono (KA.out _) ?_
  rintro e w5 ⟨rfl, hb⟩
  have HB5 : Hid (Below w.heap.size w w5) := bel_on (Nat.le_refl _) HB4.out hb
  have HP5 : Hid (w5.heap[w.heap.size]? = some (PB s n d r' l B g k)) := row_on HP4.out hb
  have HZ5 : Hid (w5.heap[w.heap.size + 1]? = some (PB 0 0 0 0 0 0 0 0)) := row_on HZ4.out hb
  have p5 := box8_cells HP5.out
  clear hb HB4 HP4 HZ4 p4
  go_wp2_with (refine listStoreC rfl rfl _ _ _ rfl rfl w.heap.size 6 (G) rfl rfl HP5.out (by simp) ?_)
  intro w6 hr ho hs hB
  have HB6 : Hid (Below w.heap.size w w6) := hB _ _ (Nat.le_refl _) HB5.out
  have HP6 : Hid (w6.heap[w.heap.size]? = some (PB s n d r' l B G k)) := hr
  have HZ6 : Hid (w6.heap[w.heap.size + 1]? = some (PB 0 0 0 0 0 0 0 0)) := (ho _ (by omega)).trans HZ5.out
  have p6 := box8_cells HP6.out
  clear hr ho hs hB HB5 HP5 HZ5 p5
  go_upto_region 5 with fail
  go_wp2_with (refine listStoreP rfl rfl _ _ _ rfl rfl (w.heap.size + 1) (s) (n) (d) (r') (l) (B) (G) (k) rfl rfl HZ6.out ?_)
  intro w99 hr9 ho9 hs9 hB9
  have HF : Hid (Below w.heap.size w w99) := hB9 _ _ (Nat.le_succ _) HB6.out
  obtain ⟨⟨q0, q1, q2, q3, q4, q5, q6, q7⟩, _⟩ := box8_cells hr9
  clear ho9 hs9 hB9 hr9
  go_wp2
  refine bodyPost_ret (v := .tuple #[PV s n d r' l B G k, .int .i64 0]) (by simp only [results, Tryz.results108]; simp [go_sem, q0, q1, q2, q3, q4, q5, q6, q7]) rfl ⟨rfl, HF.out⟩
set_option maxRecDepth 100000 in
set_option maxHeartbeats 4000000 in
theorem tikI_q (s n d r l b g k a r' y q B G x : Int) (KR : Hid (∀ w, Calls Tryz.prog 123 #[.agg #[.int .i64 n, .int .i64 d, .int .i64 r]] w fun e w' => e = .returned (.tuple #[.agg #[.int .i64 n, .int .i64 d, .int .i64 r'], .int .i64 y]) ∧ Below w.heap.size w w')) (KA : Hid (∀ w, Calls Tryz.prog 124 #[.int .i64 g, .int .i64 a] w fun e w' => e = .returned (.int .i64 G) ∧ Below w.heap.size w w')) (hq : Hid (min b 3 = q)) (hm : ¬ a ≤ q) (eB : IntKind.i64.wrap (b - q) = B) (ex : IntKind.i64.wrap (a - q) = x) (w : World) : Calls Tryz.prog 108 #[PV s n d r l b g k, .int .i64 a] w fun e w' => e = .returned (.tuple #[PV s n d r' l B G k, .int .i64 x]) ∧ Below w.heap.size w w' := by
  have HB0 : Hid (Below w.heap.size w ((w.alloc (PB s n d r l b g k)).alloc (PB 0 0 0 0 0 0 0 0))) := bel_on (Nat.le_refl _) (alP _ _) (alP _ _)
  have HP0 : Hid (((w.alloc (PB s n d r l b g k)).alloc (PB 0 0 0 0 0 0 0 0)).heap[w.heap.size]? = some (PB s n d r l b g k)) := row_on (heap_new w _) (alP _ _)
  have HZ0 : Hid (((w.alloc (PB s n d r l b g k)).alloc (PB 0 0 0 0 0 0 0 0)).heap[w.heap.size + 1]? = some (PB 0 0 0 0 0 0 0 0)) := al_at (w.alloc (PB s n d r l b g k)) _ (by simp)
  have p0 := box8_cells HP0.out
  go_enter Tryz.func108, Tryz.ntmps108
  go_wp2_with fail
  refine Calls.mono (bolI s n d r l b g k q hq.out _) ?_
  rintro e w1 ⟨rfl, hb⟩
  have HB1 : Hid (Below w.heap.size w w1) := bel_on (Nat.le_refl _) HB0.out hb
  have HP1 : Hid (w1.heap[w.heap.size]? = some (PB s n d r l b g k)) := row_on HP0.out hb
  have HZ1 : Hid (w1.heap[w.heap.size + 1]? = some (PB 0 0 0 0 0 0 0 0)) := row_on HZ0.out hb
  have p1 := box8_cells HP1.out
  clear hb HB0 HP0 HZ0 p0
  go_wp2_with fail
  refine Calls.mono (KR.out _) ?_
  rintro e w2 ⟨rfl, hb⟩
  have HB2 : Hid (Below w.heap.size w w2) := bel_on (Nat.le_refl _) HB1.out hb
  have HP2 : Hid (w2.heap[w.heap.size]? = some (PB s n d r l b g k)) := row_on HP1.out hb
  have HZ2 : Hid (w2.heap[w.heap.size + 1]? = some (PB 0 0 0 0 0 0 0 0)) := row_on HZ1.out hb
  have p2 := box8_cells HP2.out
  clear hb HB1 HP1 HZ1 p1
  go_wp2_with (refine listStoreR rfl rfl _ _ _ rfl rfl w.heap.size (n) (d) (r') rfl rfl HP2.out ?_)
  intro w3 hr ho hs hB
  have HB3 : Hid (Below w.heap.size w w3) := hB _ _ (Nat.le_refl _) HB2.out
  have HP3 : Hid (w3.heap[w.heap.size]? = some (PB s n d r' l b g k)) := hr
  have HZ3 : Hid (w3.heap[w.heap.size + 1]? = some (PB 0 0 0 0 0 0 0 0)) := (ho _ (by omega)).trans HZ2.out
  have p3 := box8_cells HP3.out
  clear hr ho hs hB HB2 HP2 HZ2 p2
  go_upto_region 3 with fail
  go_wp2_with (refine listStoreC rfl rfl _ _ _ rfl rfl w.heap.size 5 (B) rfl rfl HP3.out (by simp) ?_)
  intro w4 hr ho hs hB
  have HB4 : Hid (Below w.heap.size w w4) := hB _ _ (Nat.le_refl _) HB3.out
  have HP4 : Hid (w4.heap[w.heap.size]? = some (PB s n d r' l B g k)) := hr
  have HZ4 : Hid (w4.heap[w.heap.size + 1]? = some (PB 0 0 0 0 0 0 0 0)) := (ho _ (by omega)).trans HZ3.out
  have p4 := box8_cells HP4.out
  clear hr ho hs hB HB3 HP3 HZ3 p3
  go_wp2_with fail
  refine Calls.mono (KA.out _) ?_
  rintro e w5 ⟨rfl, hb⟩
  have HB5 : Hid (Below w.heap.size w w5) := bel_on (Nat.le_refl _) HB4.out hb
  have HP5 : Hid (w5.heap[w.heap.size]? = some (PB s n d r' l B g k)) := row_on HP4.out hb
  have HZ5 : Hid (w5.heap[w.heap.size + 1]? = some (PB 0 0 0 0 0 0 0 0)) := row_on HZ4.out hb
  have p5 := box8_cells HP5.out
  clear hb HB4 HP4 HZ4 p4
  go_wp2_with (refine listStoreC rfl rfl _ _ _ rfl rfl w.heap.size 6 (G) rfl rfl HP5.out (by simp) ?_)
  intro w6 hr ho hs hB
  have HB6 : Hid (Below w.heap.size w w6) := hB _ _ (Nat.le_refl _) HB5.out
  have HP6 : Hid (w6.heap[w.heap.size]? = some (PB s n d r' l B G k)) := hr
  have HZ6 : Hid (w6.heap[w.heap.size + 1]? = some (PB 0 0 0 0 0 0 0 0)) := (ho _ (by omega)).trans HZ5.out
  have p6 := box8_cells HP6.out
  clear hr ho hs hB HB5 HP5 HZ5 p5
  go_upto_region 5 with fail
  go_wp2_with (refine listStoreP rfl rfl _ _ _ rfl rfl (w.heap.size + 1) (s) (n) (d) (r') (l) (B) (G) (k) rfl rfl HZ6.out ?_)
  intro w99 hr9 ho9 hs9 hB9
  have HF : Hid (Below w.heap.size w w99) := hB9 _ _ (Nat.le_succ _) HB6.out
  obtain ⟨⟨q0, q1, q2, q3, q4, q5, q6, q7⟩, _⟩ := box8_cells hr9
  clear ho9 hs9 hB9 hr9
  go_wp2
  refine bodyPost_ret (v := .tuple #[PV s n d r' l B G k, .int .i64 x]) (by simp only [results, Tryz.results108]; simp [go_sem, q0, q1, q2, q3, q4, q5, q6, q7]) rfl ⟨rfl, HF.out⟩
set_option maxRecDepth 100000 in
set_option maxHeartbeats 4000000 in
theorem gkI (s n d r l b g k a x z0 z1 z2 z3 z4 z5 z6 z7 : Int) (KT : Hid (∀ w, Calls Tryz.prog 108 #[PV s n d r l b g k, .int .i64 a] w fun e w' => e = .returned (.tuple #[PV z0 z1 z2 z3 z4 z5 z6 z7, .int .i64 x]) ∧ Below w.heap.size w w'))  (w : World) : Calls Tryz.prog 72 #[PV s n d r l b g k, .int .i64 a] w fun e w' => e = .returned (PV z0 z1 z2 z3 z4 z5 z6 z7) ∧ Below w.heap.size w w' := by
  have HB0 : Hid (Below w.heap.size w ((w.alloc (PB s n d r l b g k)).alloc (PB 0 0 0 0 0 0 0 0))) := bel_on (Nat.le_refl _) (alP _ _) (alP _ _)
  have HP0 : Hid (((w.alloc (PB s n d r l b g k)).alloc (PB 0 0 0 0 0 0 0 0)).heap[w.heap.size]? = some (PB s n d r l b g k)) := row_on (heap_new w _) (alP _ _)
  have HZ0 : Hid (((w.alloc (PB s n d r l b g k)).alloc (PB 0 0 0 0 0 0 0 0)).heap[w.heap.size + 1]? = some (PB 0 0 0 0 0 0 0 0)) := al_at (w.alloc (PB s n d r l b g k)) _ (by simp)
  have p0 := box8_cells HP0.out
  go_enter Tryz.func72, Tryz.ntmps72
  go_wp2_with fail
  refine Calls.mono (KT.out _) ?_
  rintro e w1 ⟨rfl, hb⟩
  have HB1 : Hid (Below w.heap.size w w1) := bel_on (Nat.le_refl _) HB0.out hb
  have HP1 : Hid (w1.heap[w.heap.size]? = some (PB s n d r l b g k)) := row_on HP0.out hb
  have HZ1 : Hid (w1.heap[w.heap.size + 1]? = some (PB 0 0 0 0 0 0 0 0)) := row_on HZ0.out hb
  have p1 := box8_cells HP1.out
  clear hb HB0 HP0 HZ0 p0
  go_wp2_with (refine listStoreP rfl rfl _ _ _ rfl rfl w.heap.size (z0) (z1) (z2) (z3) (z4) (z5) (z6) (z7) rfl rfl HP1.out ?_)
  intro w2 hr ho hs hB
  have HB2 : Hid (Below w.heap.size w w2) := hB _ _ (Nat.le_refl _) HB1.out
  have HP2 : Hid (w2.heap[w.heap.size]? = some (PB z0 z1 z2 z3 z4 z5 z6 z7)) := hr
  have HZ2 : Hid (w2.heap[w.heap.size + 1]? = some (PB 0 0 0 0 0 0 0 0)) := (ho _ (by omega)).trans HZ1.out
  have p2 := box8_cells HP2.out
  clear hr ho hs hB HB1 HP1 HZ1 p1
  go_upto_region 2 with fail
  go_wp2_with (refine listStoreP rfl rfl _ _ _ rfl rfl (w.heap.size + 1) (z0) (z1) (z2) (z3) (z4) (z5) (z6) (z7) rfl rfl HZ2.out ?_)
  intro w99 hr9 ho9 hs9 hB9
  have HF : Hid (Below w.heap.size w w99) := hB9 _ _ (Nat.le_succ _) HB2.out
  obtain ⟨⟨q0, q1, q2, q3, q4, q5, q6, q7⟩, _⟩ := box8_cells hr9
  clear ho9 hs9 hB9 hr9
  go_wp2
  refine bodyPost_ret (v := PV z0 z1 z2 z3 z4 z5 z6 z7) (by simp only [results, Tryz.results72]; simp [go_sem, q0, q1, q2, q3, q4, q5, q6, q7]) rfl ⟨rfl, HF.out⟩
set_option maxRecDepth 100000 in
set_option maxHeartbeats 4000000 in
theorem gbI_n (s n d r l b g k a x z0 z1 z2 z3 z4 z5 z6 z7 : Int) (KT : Hid (∀ w, Calls Tryz.prog 108 #[PV s n d r l b g k, .int .i64 a] w fun e w' => e = .returned (.tuple #[PV z0 z1 z2 z3 z4 z5 z6 z7, .int .i64 x]) ∧ Below w.heap.size w w')) {L : Int} (eL : IntKind.i64.wrap (z4 - x) = L) (hL : (L == 0) = false) (w : World) : Calls Tryz.prog 69 #[PV s n d r l b g k, .int .i64 a] w fun e w' => e = .returned (PV z0 z1 z2 z3 L z5 z6 z7) ∧ Below w.heap.size w w' := by
  have HB0 : Hid (Below w.heap.size w ((w.alloc (PB s n d r l b g k)).alloc (PB 0 0 0 0 0 0 0 0))) := bel_on (Nat.le_refl _) (alP _ _) (alP _ _)
  have HP0 : Hid (((w.alloc (PB s n d r l b g k)).alloc (PB 0 0 0 0 0 0 0 0)).heap[w.heap.size]? = some (PB s n d r l b g k)) := row_on (heap_new w _) (alP _ _)
  have HZ0 : Hid (((w.alloc (PB s n d r l b g k)).alloc (PB 0 0 0 0 0 0 0 0)).heap[w.heap.size + 1]? = some (PB 0 0 0 0 0 0 0 0)) := al_at (w.alloc (PB s n d r l b g k)) _ (by simp)
  have p0 := box8_cells HP0.out
  go_enter Tryz.func69, Tryz.ntmps69
  go_wp2_with fail
  refine Calls.mono (KT.out _) ?_
  rintro e w1 ⟨rfl, hb⟩
  have HB1 : Hid (Below w.heap.size w w1) := bel_on (Nat.le_refl _) HB0.out hb
  have HP1 : Hid (w1.heap[w.heap.size]? = some (PB s n d r l b g k)) := row_on HP0.out hb
  have HZ1 : Hid (w1.heap[w.heap.size + 1]? = some (PB 0 0 0 0 0 0 0 0)) := row_on HZ0.out hb
  have p1 := box8_cells HP1.out
  clear hb HB0 HP0 HZ0 p0
  go_wp2_with (refine listStoreP rfl rfl _ _ _ rfl rfl w.heap.size (z0) (z1) (z2) (z3) (z4) (z5) (z6) (z7) rfl rfl HP1.out ?_)
  intro w2 hr ho hs hB
  have HB2 : Hid (Below w.heap.size w w2) := hB _ _ (Nat.le_refl _) HB1.out
  have HP2 : Hid (w2.heap[w.heap.size]? = some (PB z0 z1 z2 z3 z4 z5 z6 z7)) := hr
  have HZ2 : Hid (w2.heap[w.heap.size + 1]? = some (PB 0 0 0 0 0 0 0 0)) := (ho _ (by omega)).trans HZ1.out
  have p2 := box8_cells HP2.out
  clear hr ho hs hB HB1 HP1 HZ1 p1
  go_upto_region 2 with fail
  go_wp2_with (refine listStoreC rfl rfl _ _ _ rfl rfl w.heap.size 4 (L) rfl rfl HP2.out (by simp) ?_)
  intro w3 hr ho hs hB
  have HB3 : Hid (Below w.heap.size w w3) := hB _ _ (Nat.le_refl _) HB2.out
  have HP3 : Hid (w3.heap[w.heap.size]? = some (PB z0 z1 z2 z3 L z5 z6 z7)) := hr
  have HZ3 : Hid (w3.heap[w.heap.size + 1]? = some (PB 0 0 0 0 0 0 0 0)) := (ho _ (by omega)).trans HZ2.out
  have p3 := box8_cells HP3.out
  clear hr ho hs hB HB2 HP2 HZ2 p2
  go_upto_region 5 with fail
  go_wp2_with (refine listStoreP rfl rfl _ _ _ rfl rfl (w.heap.size + 1) (z0) (z1) (z2) (z3) (L) (z5) (z6) (z7) rfl rfl HZ3.out ?_)
  intro w99 hr9 ho9 hs9 hB9
  have HF : Hid (Below w.heap.size w w99) := hB9 _ _ (Nat.le_succ _) HB3.out
  obtain ⟨⟨q0, q1, q2, q3, q4, q5, q6, q7⟩, _⟩ := box8_cells hr9
  clear ho9 hs9 hB9 hr9
  go_wp2
  refine bodyPost_ret (v := PV z0 z1 z2 z3 L z5 z6 z7) (by simp only [results, Tryz.results69]; simp [go_sem, q0, q1, q2, q3, q4, q5, q6, q7]) rfl ⟨rfl, HF.out⟩
set_option maxRecDepth 100000 in
set_option maxHeartbeats 4000000 in
theorem gbI_0 (s n d r l b g k a x z0 z1 z2 z3 z4 z5 z6 z7 : Int) (KT : Hid (∀ w, Calls Tryz.prog 108 #[PV s n d r l b g k, .int .i64 a] w fun e w' => e = .returned (.tuple #[PV z0 z1 z2 z3 z4 z5 z6 z7, .int .i64 x]) ∧ Below w.heap.size w w')) (eL : IntKind.i64.wrap (z4 - x) = 0) (w : World) : Calls Tryz.prog 69 #[PV s n d r l b g k, .int .i64 a] w fun e w' => e = .returned (PV 2 1 50 0 0 z5 z6 z7) ∧ Below w.heap.size w w' := by
  have HB0 : Hid (Below w.heap.size w ((w.alloc (PB s n d r l b g k)).alloc (PB 0 0 0 0 0 0 0 0))) := bel_on (Nat.le_refl _) (alP _ _) (alP _ _)
  have HP0 : Hid (((w.alloc (PB s n d r l b g k)).alloc (PB 0 0 0 0 0 0 0 0)).heap[w.heap.size]? = some (PB s n d r l b g k)) := row_on (heap_new w _) (alP _ _)
  have HZ0 : Hid (((w.alloc (PB s n d r l b g k)).alloc (PB 0 0 0 0 0 0 0 0)).heap[w.heap.size + 1]? = some (PB 0 0 0 0 0 0 0 0)) := al_at (w.alloc (PB s n d r l b g k)) _ (by simp)
  have p0 := box8_cells HP0.out
  go_enter Tryz.func69, Tryz.ntmps69
  go_wp2_with fail
  refine Calls.mono (KT.out _) ?_
  rintro e w1 ⟨rfl, hb⟩
  have HB1 : Hid (Below w.heap.size w w1) := bel_on (Nat.le_refl _) HB0.out hb
  have HP1 : Hid (w1.heap[w.heap.size]? = some (PB s n d r l b g k)) := row_on HP0.out hb
  have HZ1 : Hid (w1.heap[w.heap.size + 1]? = some (PB 0 0 0 0 0 0 0 0)) := row_on HZ0.out hb
  have p1 := box8_cells HP1.out
  clear hb HB0 HP0 HZ0 p0
  go_wp2_with (refine listStoreP rfl rfl _ _ _ rfl rfl w.heap.size (z0) (z1) (z2) (z3) (z4) (z5) (z6) (z7) rfl rfl HP1.out ?_)
  intro w2 hr ho hs hB
  have HB2 : Hid (Below w.heap.size w w2) := hB _ _ (Nat.le_refl _) HB1.out
  have HP2 : Hid (w2.heap[w.heap.size]? = some (PB z0 z1 z2 z3 z4 z5 z6 z7)) := hr
  have HZ2 : Hid (w2.heap[w.heap.size + 1]? = some (PB 0 0 0 0 0 0 0 0)) := (ho _ (by omega)).trans HZ1.out
  have p2 := box8_cells HP2.out
  clear hr ho hs hB HB1 HP1 HZ1 p1
  go_upto_region 2 with fail
  go_wp2_with (refine listStoreC rfl rfl _ _ _ rfl rfl w.heap.size 4 (0) rfl rfl HP2.out (by simp) ?_)
  intro w3 hr ho hs hB
  have HB3 : Hid (Below w.heap.size w w3) := hB _ _ (Nat.le_refl _) HB2.out
  have HP3 : Hid (w3.heap[w.heap.size]? = some (PB z0 z1 z2 z3 0 z5 z6 z7)) := hr
  have HZ3 : Hid (w3.heap[w.heap.size + 1]? = some (PB 0 0 0 0 0 0 0 0)) := (ho _ (by omega)).trans HZ2.out
  have p3 := box8_cells HP3.out
  clear hr ho hs hB HB2 HP2 HZ2 p2
  go_upto_region 4 with fail
  go_wp2_with (refine listStoreC rfl rfl _ _ _ rfl rfl w.heap.size 0 (2) rfl rfl HP3.out (by simp) ?_)
  intro w4 hr ho hs hB
  have HB4 : Hid (Below w.heap.size w w4) := hB _ _ (Nat.le_refl _) HB3.out
  have HP4 : Hid (w4.heap[w.heap.size]? = some (PB 2 z1 z2 z3 0 z5 z6 z7)) := hr
  have HZ4 : Hid (w4.heap[w.heap.size + 1]? = some (PB 0 0 0 0 0 0 0 0)) := (ho _ (by omega)).trans HZ3.out
  have p4 := box8_cells HP4.out
  clear hr ho hs hB HB3 HP3 HZ3 p3
  go_wp2_with (refine listStoreR rfl rfl _ _ _ rfl rfl w.heap.size (1) (50) (0) rfl rfl HP4.out ?_)
  intro w5 hr ho hs hB
  have HB5 : Hid (Below w.heap.size w w5) := hB _ _ (Nat.le_refl _) HB4.out
  have HP5 : Hid (w5.heap[w.heap.size]? = some (PB 2 1 50 0 0 z5 z6 z7)) := hr
  have HZ5 : Hid (w5.heap[w.heap.size + 1]? = some (PB 0 0 0 0 0 0 0 0)) := (ho _ (by omega)).trans HZ4.out
  have p5 := box8_cells HP5.out
  clear hr ho hs hB HB4 HP4 HZ4 p4
  go_upto_region 5 with fail
  go_wp2_with (refine listStoreP rfl rfl _ _ _ rfl rfl (w.heap.size + 1) (2) (1) (50) (0) (0) (z5) (z6) (z7) rfl rfl HZ5.out ?_)
  intro w99 hr9 ho9 hs9 hB9
  have HF : Hid (Below w.heap.size w w99) := hB9 _ _ (Nat.le_succ _) HB5.out
  obtain ⟨⟨q0, q1, q2, q3, q4, q5, q6, q7⟩, _⟩ := box8_cells hr9
  clear ho9 hs9 hB9 hr9
  go_wp2
  refine bodyPost_ret (v := PV 2 1 50 0 0 z5 z6 z7) (by simp only [results, Tryz.results69]; simp [go_sem, q0, q1, q2, q3, q4, q5, q6, q7]) rfl ⟨rfl, HF.out⟩
end Go.Proofs.YtdifmjcghaoilaaGreatDoor

namespace Go.Proofs.YtdifmjcghaoilaaGreatDoor
open Go.RowKit Go.PlainAid
set_option linter.unusedVariables false
set_option linter.unusedSimpArgs false

theorem tkW_1_0 (n d r l b g k N D V : Int) (hp : Pm.ok ⟨0, n, d, r, l, b, g, k⟩) (ho : OrdR 1 N D V) (w : World) : Calls Tryz.prog 76 #[PV 0 n d r l b g k, .agg #[.int .i64 1, .int .i64 N, .int .i64 D, .int .i64 V]] w fun e w' => e = .returned (.tuple #[(Pm.take ⟨0, n, d, r, l, b, g, k⟩ 1 N D V).1.V, .bool (Pm.take ⟨0, n, d, r, l, b, g, k⟩ 1 N D V).2]) ∧ Below w.heap.size w w' := by
  have HT : Pm.take ⟨0, n, d, r, l, b, g, k⟩ 1 N D V = (⟨1, N, D, 0, V, b, g, k⟩, true) := by unfold Pm.take; rw [or_yes ho, ok_yes hp]; simp
  rw [HT]
  exact (idlI_1 0 n d r l b g k N D V (fun w => stdI 0 n d r l b g k 1 N D V w) w)
theorem tkW_1_1 (n d r l b g k N D V : Int) (hp : Pm.ok ⟨1, n, d, r, l, b, g, k⟩) (ho : OrdR 1 N D V) (w : World) : Calls Tryz.prog 67 #[PV 1 n d r l b g k, .agg #[.int .i64 1, .int .i64 N, .int .i64 D, .int .i64 V]] w fun e w' => e = .returned (.tuple #[(Pm.take ⟨1, n, d, r, l, b, g, k⟩ 1 N D V).1.V, .bool (Pm.take ⟨1, n, d, r, l, b, g, k⟩ 1 N D V).2]) ∧ Below w.heap.size w w' := by
  have HT : Pm.take ⟨1, n, d, r, l, b, g, k⟩ 1 N D V = (⟨1, n, d, r, l, b, g, k⟩, false) := by unfold Pm.take; rw [or_yes ho, ok_yes hp]; simp
  rw [HT]
  exact (runI_n 1 n d r l b g k 1 N D V rfl rfl (fun w => (alwI_n 1 n d r l b g k 1 N D V rfl w)) w)
theorem tkW_1_2 (n d r l b g k N D V : Int) (hp : Pm.ok ⟨2, n, d, r, l, b, g, k⟩) (ho : OrdR 1 N D V) (w : World) : Calls Tryz.prog 70 #[PV 2 n d r l b g k, .agg #[.int .i64 1, .int .i64 N, .int .i64 D, .int .i64 V]] w fun e w' => e = .returned (.tuple #[(Pm.take ⟨2, n, d, r, l, b, g, k⟩ 1 N D V).1.V, .bool (Pm.take ⟨2, n, d, r, l, b, g, k⟩ 1 N D V).2]) ∧ Below w.heap.size w w' := by
  have HT : Pm.take ⟨2, n, d, r, l, b, g, k⟩ 1 N D V = (⟨1, N, D, 0, V, b, g, k⟩, true) := by unfold Pm.take; rw [or_yes ho, ok_yes hp]; simp
  rw [HT]
  exact (kepI_1 2 n d r l b g k N D V (fun w => stdI 2 n d r l b g k 1 N D V w) w)
theorem tkW_1_3 (n d r l b g k N D V : Int) (hp : Pm.ok ⟨3, n, d, r, l, b, g, k⟩) (ho : OrdR 1 N D V) (w : World) : Calls Tryz.prog 73 #[PV 3 n d r l b g k, .agg #[.int .i64 1, .int .i64 N, .int .i64 D, .int .i64 V]] w fun e w' => e = .returned (.tuple #[(Pm.take ⟨3, n, d, r, l, b, g, k⟩ 1 N D V).1.V, .bool (Pm.take ⟨3, n, d, r, l, b, g, k⟩ 1 N D V).2]) ∧ Below w.heap.size w w' := by
  have HT : Pm.take ⟨3, n, d, r, l, b, g, k⟩ 1 N D V = (⟨3, n, d, r, l, b, g, k⟩, false) := by unfold Pm.take; rw [or_yes ho, ok_yes hp]; simp
  rw [HT]
  exact (pauI_n 3 n d r l b g k 1 N D V rfl (fun w => (alwI_n 3 n d r l b g k 1 N D V rfl w)) w)
theorem tkW_2_0 (n d r l b g k N D V : Int) (hp : Pm.ok ⟨0, n, d, r, l, b, g, k⟩) (ho : OrdR 2 N D V) (w : World) : Calls Tryz.prog 76 #[PV 0 n d r l b g k, .agg #[.int .i64 2, .int .i64 N, .int .i64 D, .int .i64 V]] w fun e w' => e = .returned (.tuple #[(Pm.take ⟨0, n, d, r, l, b, g, k⟩ 2 N D V).1.V, .bool (Pm.take ⟨0, n, d, r, l, b, g, k⟩ 2 N D V).2]) ∧ Below w.heap.size w w' := by
  have HT : Pm.take ⟨0, n, d, r, l, b, g, k⟩ 2 N D V = (⟨0, n, d, r, l, b, g, k⟩, false) := by unfold Pm.take; rw [or_yes ho, ok_yes hp]; simp
  rw [HT]
  exact (idlI_n 0 n d r l b g k 2 N D V rfl (fun w => (alwI_n 0 n d r l b g k 2 N D V rfl w)) w)
theorem tkW_2_1b0 (n d r l g k N D V : Int) (hp : Pm.ok ⟨1, n, d, r, l, 0, g, k⟩) (ho : OrdR 2 N D V) (w : World) : Calls Tryz.prog 67 #[PV 1 n d r l 0 g k, .agg #[.int .i64 2, .int .i64 N, .int .i64 D, .int .i64 V]] w fun e w' => e = .returned (.tuple #[(Pm.take ⟨1, n, d, r, l, 0, g, k⟩ 2 N D V).1.V, .bool (Pm.take ⟨1, n, d, r, l, 0, g, k⟩ 2 N D V).2]) ∧ Below w.heap.size w w' := by
  have HT : Pm.take ⟨1, n, d, r, l, 0, g, k⟩ 2 N D V = (⟨1, n, d, r, l, V, g, k⟩, true) := by unfold Pm.take; rw [or_yes ho, ok_yes hp]; simp
  rw [HT]
  exact (runI_2 1 n d r l 0 g k N D V (fun w => wbI_0 1 n d r l g k 2 N D V w) w)
theorem tkW_2_1b1 (n d r l b g k N D V : Int) (hp : Pm.ok ⟨1, n, d, r, l, b, g, k⟩) (ho : OrdR 2 N D V) (hb0 : 0 < b) (w : World) : Calls Tryz.prog 67 #[PV 1 n d r l b g k, .agg #[.int .i64 2, .int .i64 N, .int .i64 D, .int .i64 V]] w fun e w' => e = .returned (.tuple #[(Pm.take ⟨1, n, d, r, l, b, g, k⟩ 2 N D V).1.V, .bool (Pm.take ⟨1, n, d, r, l, b, g, k⟩ 2 N D V).2]) ∧ Below w.heap.size w w' := by
  have HT : Pm.take ⟨1, n, d, r, l, b, g, k⟩ 2 N D V = (⟨1, n, d, r, l, b, g, k⟩, false) := by unfold Pm.take; rw [or_yes ho, ok_yes hp]; simp [hb0]
  have hbn : (b != 0) = true := by simp; omega
  rw [HT]
  exact (runI_2 1 n d r l b g k N D V (fun w => wbI_n 1 n d r l b g k 2 N D V hbn w) w)
theorem tkW_2_2b0 (n d r l g k N D V : Int) (hp : Pm.ok ⟨2, n, d, r, l, 0, g, k⟩) (ho : OrdR 2 N D V) (w : World) : Calls Tryz.prog 70 #[PV 2 n d r l 0 g k, .agg #[.int .i64 2, .int .i64 N, .int .i64 D, .int .i64 V]] w fun e w' => e = .returned (.tuple #[(Pm.take ⟨2, n, d, r, l, 0, g, k⟩ 2 N D V).1.V, .bool (Pm.take ⟨2, n, d, r, l, 0, g, k⟩ 2 N D V).2]) ∧ Below w.heap.size w w' := by
  have HT : Pm.take ⟨2, n, d, r, l, 0, g, k⟩ 2 N D V = (⟨2, n, d, r, l, V, g, k⟩, true) := by unfold Pm.take; rw [or_yes ho, ok_yes hp]; simp
  rw [HT]
  exact (kepI_n 2 n d r l 0 g k 2 N D V rfl (fun w => (runI_2 2 n d r l 0 g k N D V (fun w => wbI_0 2 n d r l g k 2 N D V w) w)) w)
theorem tkW_2_2b1 (n d r l b g k N D V : Int) (hp : Pm.ok ⟨2, n, d, r, l, b, g, k⟩) (ho : OrdR 2 N D V) (hb0 : 0 < b) (w : World) : Calls Tryz.prog 70 #[PV 2 n d r l b g k, .agg #[.int .i64 2, .int .i64 N, .int .i64 D, .int .i64 V]] w fun e w' => e = .returned (.tuple #[(Pm.take ⟨2, n, d, r, l, b, g, k⟩ 2 N D V).1.V, .bool (Pm.take ⟨2, n, d, r, l, b, g, k⟩ 2 N D V).2]) ∧ Below w.heap.size w w' := by
  have HT : Pm.take ⟨2, n, d, r, l, b, g, k⟩ 2 N D V = (⟨2, n, d, r, l, b, g, k⟩, false) := by unfold Pm.take; rw [or_yes ho, ok_yes hp]; simp [hb0]
  have hbn : (b != 0) = true := by simp; omega
  rw [HT]
  exact (kepI_n 2 n d r l b g k 2 N D V rfl (fun w => (runI_2 2 n d r l b g k N D V (fun w => wbI_n 2 n d r l b g k 2 N D V hbn w) w)) w)
theorem tkW_2_3 (n d r l b g k N D V : Int) (hp : Pm.ok ⟨3, n, d, r, l, b, g, k⟩) (ho : OrdR 2 N D V) (w : World) : Calls Tryz.prog 73 #[PV 3 n d r l b g k, .agg #[.int .i64 2, .int .i64 N, .int .i64 D, .int .i64 V]] w fun e w' => e = .returned (.tuple #[(Pm.take ⟨3, n, d, r, l, b, g, k⟩ 2 N D V).1.V, .bool (Pm.take ⟨3, n, d, r, l, b, g, k⟩ 2 N D V).2]) ∧ Below w.heap.size w w' := by
  have HT : Pm.take ⟨3, n, d, r, l, b, g, k⟩ 2 N D V = (⟨3, n, d, r, l, b, g, k⟩, false) := by unfold Pm.take; rw [or_yes ho, ok_yes hp]; simp
  rw [HT]
  exact (pauI_n 3 n d r l b g k 2 N D V rfl (fun w => (alwI_n 3 n d r l b g k 2 N D V rfl w)) w)
theorem tkW_3_0 (n d r l b g k N D V : Int) (hp : Pm.ok ⟨0, n, d, r, l, b, g, k⟩) (ho : OrdR 3 N D V) (w : World) : Calls Tryz.prog 76 #[PV 0 n d r l b g k, .agg #[.int .i64 3, .int .i64 N, .int .i64 D, .int .i64 V]] w fun e w' => e = .returned (.tuple #[(Pm.take ⟨0, n, d, r, l, b, g, k⟩ 3 N D V).1.V, .bool (Pm.take ⟨0, n, d, r, l, b, g, k⟩ 3 N D V).2]) ∧ Below w.heap.size w w' := by
  have HT : Pm.take ⟨0, n, d, r, l, b, g, k⟩ 3 N D V = (⟨0, n, d, r, l, b, g, k⟩, false) := by unfold Pm.take; rw [or_yes ho, ok_yes hp]; simp
  rw [HT]
  exact (idlI_n 0 n d r l b g k 3 N D V rfl (fun w => (alwI_n 0 n d r l b g k 3 N D V rfl w)) w)
theorem tkW_3_1 (n d r l b g k N D V : Int) (hp : Pm.ok ⟨1, n, d, r, l, b, g, k⟩) (ho : OrdR 3 N D V) (w : World) : Calls Tryz.prog 67 #[PV 1 n d r l b g k, .agg #[.int .i64 3, .int .i64 N, .int .i64 D, .int .i64 V]] w fun e w' => e = .returned (.tuple #[(Pm.take ⟨1, n, d, r, l, b, g, k⟩ 3 N D V).1.V, .bool (Pm.take ⟨1, n, d, r, l, b, g, k⟩ 3 N D V).2]) ∧ Below w.heap.size w w' := by
  have HT : Pm.take ⟨1, n, d, r, l, b, g, k⟩ 3 N D V = (⟨3, n, d, r, l, b, g, 1⟩, true) := by unfold Pm.take; rw [or_yes ho, ok_yes hp]; simp
  rw [HT]
  exact (runI_3 1 n d r l b g k N D V w)
theorem tkW_3_2 (n d r l b g k N D V : Int) (hp : Pm.ok ⟨2, n, d, r, l, b, g, k⟩) (ho : OrdR 3 N D V) (w : World) : Calls Tryz.prog 70 #[PV 2 n d r l b g k, .agg #[.int .i64 3, .int .i64 N, .int .i64 D, .int .i64 V]] w fun e w' => e = .returned (.tuple #[(Pm.take ⟨2, n, d, r, l, b, g, k⟩ 3 N D V).1.V, .bool (Pm.take ⟨2, n, d, r, l, b, g, k⟩ 3 N D V).2]) ∧ Below w.heap.size w w' := by
  have HT : Pm.take ⟨2, n, d, r, l, b, g, k⟩ 3 N D V = (⟨3, n, d, r, l, b, g, 2⟩, true) := by unfold Pm.take; rw [or_yes ho, ok_yes hp]; simp
  rw [HT]
  exact (kepI_n 2 n d r l b g k 3 N D V rfl (fun w => (runI_3 2 n d r l b g k N D V w)) w)
theorem tkW_3_3 (n d r l b g k N D V : Int) (hp : Pm.ok ⟨3, n, d, r, l, b, g, k⟩) (ho : OrdR 3 N D V) (w : World) : Calls Tryz.prog 73 #[PV 3 n d r l b g k, .agg #[.int .i64 3, .int .i64 N, .int .i64 D, .int .i64 V]] w fun e w' => e = .returned (.tuple #[(Pm.take ⟨3, n, d, r, l, b, g, k⟩ 3 N D V).1.V, .bool (Pm.take ⟨3, n, d, r, l, b, g, k⟩ 3 N D V).2]) ∧ Below w.heap.size w w' := by
  have HT : Pm.take ⟨3, n, d, r, l, b, g, k⟩ 3 N D V = (⟨3, n, d, r, l, b, g, k⟩, false) := by unfold Pm.take; rw [or_yes ho, ok_yes hp]; simp
  rw [HT]
  exact (pauI_n 3 n d r l b g k 3 N D V rfl (fun w => (alwI_n 3 n d r l b g k 3 N D V rfl w)) w)
theorem tkW_4_0 (n d r l b g k N D V : Int) (hp : Pm.ok ⟨0, n, d, r, l, b, g, k⟩) (ho : OrdR 4 N D V) (w : World) : Calls Tryz.prog 76 #[PV 0 n d r l b g k, .agg #[.int .i64 4, .int .i64 N, .int .i64 D, .int .i64 V]] w fun e w' => e = .returned (.tuple #[(Pm.take ⟨0, n, d, r, l, b, g, k⟩ 4 N D V).1.V, .bool (Pm.take ⟨0, n, d, r, l, b, g, k⟩ 4 N D V).2]) ∧ Below w.heap.size w w' := by
  have HT : Pm.take ⟨0, n, d, r, l, b, g, k⟩ 4 N D V = (⟨0, n, d, r, l, b, g, k⟩, false) := by unfold Pm.take; rw [or_yes ho, ok_yes hp]; simp
  rw [HT]
  exact (idlI_n 0 n d r l b g k 4 N D V rfl (fun w => (alwI_n 0 n d r l b g k 4 N D V rfl w)) w)
theorem tkW_4_1 (n d r l b g k N D V : Int) (hp : Pm.ok ⟨1, n, d, r, l, b, g, k⟩) (ho : OrdR 4 N D V) (w : World) : Calls Tryz.prog 67 #[PV 1 n d r l b g k, .agg #[.int .i64 4, .int .i64 N, .int .i64 D, .int .i64 V]] w fun e w' => e = .returned (.tuple #[(Pm.take ⟨1, n, d, r, l, b, g, k⟩ 4 N D V).1.V, .bool (Pm.take ⟨1, n, d, r, l, b, g, k⟩ 4 N D V).2]) ∧ Below w.heap.size w w' := by
  have HT : Pm.take ⟨1, n, d, r, l, b, g, k⟩ 4 N D V = (⟨1, n, d, r, l, b, g, k⟩, false) := by unfold Pm.take; rw [or_yes ho, ok_yes hp]; simp
  rw [HT]
  exact (runI_n 1 n d r l b g k 4 N D V rfl rfl (fun w => (alwI_n 1 n d r l b g k 4 N D V rfl w)) w)
theorem tkW_4_2 (n d r l b g k N D V : Int) (hp : Pm.ok ⟨2, n, d, r, l, b, g, k⟩) (ho : OrdR 4 N D V) (w : World) : Calls Tryz.prog 70 #[PV 2 n d r l b g k, .agg #[.int .i64 4, .int .i64 N, .int .i64 D, .int .i64 V]] w fun e w' => e = .returned (.tuple #[(Pm.take ⟨2, n, d, r, l, b, g, k⟩ 4 N D V).1.V, .bool (Pm.take ⟨2, n, d, r, l, b, g, k⟩ 4 N D V).2]) ∧ Below w.heap.size w w' := by
  have HT : Pm.take ⟨2, n, d, r, l, b, g, k⟩ 4 N D V = (⟨2, n, d, r, l, b, g, k⟩, false) := by unfold Pm.take; rw [or_yes ho, ok_yes hp]; simp
  rw [HT]
  exact (kepI_n 2 n d r l b g k 4 N D V rfl (fun w => (runI_n 2 n d r l b g k 4 N D V rfl rfl (fun w => (alwI_n 2 n d r l b g k 4 N D V rfl w)) w)) w)
theorem tkW_4_3 (n d r l b g k N D V : Int) (hp : Pm.ok ⟨3, n, d, r, l, b, g, k⟩) (ho : OrdR 4 N D V) (w : World) : Calls Tryz.prog 73 #[PV 3 n d r l b g k, .agg #[.int .i64 4, .int .i64 N, .int .i64 D, .int .i64 V]] w fun e w' => e = .returned (.tuple #[(Pm.take ⟨3, n, d, r, l, b, g, k⟩ 4 N D V).1.V, .bool (Pm.take ⟨3, n, d, r, l, b, g, k⟩ 4 N D V).2]) ∧ Below w.heap.size w w' := by
  have HT : Pm.take ⟨3, n, d, r, l, b, g, k⟩ 4 N D V = (⟨k, n, d, r, l, b, g, 0⟩, true) := by unfold Pm.take; rw [or_yes ho, ok_yes hp]; simp
  rw [HT]
  exact (pauI_4 3 n d r l b g k N D V w)
theorem tkW_5_0 (n d r l b g k N D V : Int) (hp : Pm.ok ⟨0, n, d, r, l, b, g, k⟩) (ho : OrdR 5 N D V) (w : World) : Calls Tryz.prog 76 #[PV 0 n d r l b g k, .agg #[.int .i64 5, .int .i64 N, .int .i64 D, .int .i64 V]] w fun e w' => e = .returned (.tuple #[(Pm.take ⟨0, n, d, r, l, b, g, k⟩ 5 N D V).1.V, .bool (Pm.take ⟨0, n, d, r, l, b, g, k⟩ 5 N D V).2]) ∧ Below w.heap.size w w' := by
  have HT : Pm.take ⟨0, n, d, r, l, b, g, k⟩ 5 N D V = (⟨0, n, d, r, l, b, g, k⟩, false) := by unfold Pm.take; rw [or_yes ho, ok_yes hp]; simp
  rw [HT]
  exact (idlI_n 0 n d r l b g k 5 N D V rfl (fun w => (alwI_n 0 n d r l b g k 5 N D V rfl w)) w)
theorem tkW_5_1 (n d r l b g k N D V : Int) (hp : Pm.ok ⟨1, n, d, r, l, b, g, k⟩) (ho : OrdR 5 N D V) (w : World) : Calls Tryz.prog 67 #[PV 1 n d r l b g k, .agg #[.int .i64 5, .int .i64 N, .int .i64 D, .int .i64 V]] w fun e w' => e = .returned (.tuple #[(Pm.take ⟨1, n, d, r, l, b, g, k⟩ 5 N D V).1.V, .bool (Pm.take ⟨1, n, d, r, l, b, g, k⟩ 5 N D V).2]) ∧ Below w.heap.size w w' := by
  have HT : Pm.take ⟨1, n, d, r, l, b, g, k⟩ 5 N D V = (⟨1, n, d, r, l, b, g, k⟩, false) := by unfold Pm.take; rw [or_yes ho, ok_yes hp]; simp
  rw [HT]
  exact (runI_n 1 n d r l b g k 5 N D V rfl rfl (fun w => (alwI_n 1 n d r l b g k 5 N D V rfl w)) w)
theorem tkW_5_2 (n d r l b g k N D V : Int) (hp : Pm.ok ⟨2, n, d, r, l, b, g, k⟩) (ho : OrdR 5 N D V) (w : World) : Calls Tryz.prog 70 #[PV 2 n d r l b g k, .agg #[.int .i64 5, .int .i64 N, .int .i64 D, .int .i64 V]] w fun e w' => e = .returned (.tuple #[(Pm.take ⟨2, n, d, r, l, b, g, k⟩ 5 N D V).1.V, .bool (Pm.take ⟨2, n, d, r, l, b, g, k⟩ 5 N D V).2]) ∧ Below w.heap.size w w' := by
  have HT : Pm.take ⟨2, n, d, r, l, b, g, k⟩ 5 N D V = (⟨2, n, d, r, l, b, g, k⟩, false) := by unfold Pm.take; rw [or_yes ho, ok_yes hp]; simp
  rw [HT]
  exact (kepI_n 2 n d r l b g k 5 N D V rfl (fun w => (runI_n 2 n d r l b g k 5 N D V rfl rfl (fun w => (alwI_n 2 n d r l b g k 5 N D V rfl w)) w)) w)
theorem tkW_5_3 (n d r l b g k N D V : Int) (hp : Pm.ok ⟨3, n, d, r, l, b, g, k⟩) (ho : OrdR 5 N D V) (w : World) : Calls Tryz.prog 73 #[PV 3 n d r l b g k, .agg #[.int .i64 5, .int .i64 N, .int .i64 D, .int .i64 V]] w fun e w' => e = .returned (.tuple #[(Pm.take ⟨3, n, d, r, l, b, g, k⟩ 5 N D V).1.V, .bool (Pm.take ⟨3, n, d, r, l, b, g, k⟩ 5 N D V).2]) ∧ Below w.heap.size w w' := by
  have HT : Pm.take ⟨3, n, d, r, l, b, g, k⟩ 5 N D V = (⟨3, n, d, r, l, b, g, k⟩, false) := by unfold Pm.take; rw [or_yes ho, ok_yes hp]; simp
  rw [HT]
  exact (pauI_n 3 n d r l b g k 5 N D V rfl (fun w => (alwI_n 3 n d r l b g k 5 N D V rfl w)) w)
theorem tkW_6_0 (n d r l b g k N D V : Int) (hp : Pm.ok ⟨0, n, d, r, l, b, g, k⟩) (ho : OrdR 6 N D V) (w : World) : Calls Tryz.prog 76 #[PV 0 n d r l b g k, .agg #[.int .i64 6, .int .i64 N, .int .i64 D, .int .i64 V]] w fun e w' => e = .returned (.tuple #[(Pm.take ⟨0, n, d, r, l, b, g, k⟩ 6 N D V).1.V, .bool (Pm.take ⟨0, n, d, r, l, b, g, k⟩ 6 N D V).2]) ∧ Below w.heap.size w w' := by
  have HT : Pm.take ⟨0, n, d, r, l, b, g, k⟩ 6 N D V = (⟨0, n, d, r, 0, 0, g, 0⟩, true) := by unfold Pm.take; rw [or_yes ho, ok_yes hp]; simp
  rw [HT]
  exact (idlI_n 0 n d r l b g k 6 N D V rfl (fun w => (alwI_6 0 n d r l b g k N D V w)) w)
theorem tkW_6_1 (n d r l b g k N D V : Int) (hp : Pm.ok ⟨1, n, d, r, l, b, g, k⟩) (ho : OrdR 6 N D V) (w : World) : Calls Tryz.prog 67 #[PV 1 n d r l b g k, .agg #[.int .i64 6, .int .i64 N, .int .i64 D, .int .i64 V]] w fun e w' => e = .returned (.tuple #[(Pm.take ⟨1, n, d, r, l, b, g, k⟩ 6 N D V).1.V, .bool (Pm.take ⟨1, n, d, r, l, b, g, k⟩ 6 N D V).2]) ∧ Below w.heap.size w w' := by
  have HT : Pm.take ⟨1, n, d, r, l, b, g, k⟩ 6 N D V = (⟨0, n, d, r, 0, 0, g, 0⟩, true) := by unfold Pm.take; rw [or_yes ho, ok_yes hp]; simp
  rw [HT]
  exact (runI_n 1 n d r l b g k 6 N D V rfl rfl (fun w => (alwI_6 1 n d r l b g k N D V w)) w)
theorem tkW_6_2 (n d r l b g k N D V : Int) (hp : Pm.ok ⟨2, n, d, r, l, b, g, k⟩) (ho : OrdR 6 N D V) (w : World) : Calls Tryz.prog 70 #[PV 2 n d r l b g k, .agg #[.int .i64 6, .int .i64 N, .int .i64 D, .int .i64 V]] w fun e w' => e = .returned (.tuple #[(Pm.take ⟨2, n, d, r, l, b, g, k⟩ 6 N D V).1.V, .bool (Pm.take ⟨2, n, d, r, l, b, g, k⟩ 6 N D V).2]) ∧ Below w.heap.size w w' := by
  have HT : Pm.take ⟨2, n, d, r, l, b, g, k⟩ 6 N D V = (⟨0, n, d, r, 0, 0, g, 0⟩, true) := by unfold Pm.take; rw [or_yes ho, ok_yes hp]; simp
  rw [HT]
  exact (kepI_n 2 n d r l b g k 6 N D V rfl (fun w => (runI_n 2 n d r l b g k 6 N D V rfl rfl (fun w => (alwI_6 2 n d r l b g k N D V w)) w)) w)
theorem tkW_6_3 (n d r l b g k N D V : Int) (hp : Pm.ok ⟨3, n, d, r, l, b, g, k⟩) (ho : OrdR 6 N D V) (w : World) : Calls Tryz.prog 73 #[PV 3 n d r l b g k, .agg #[.int .i64 6, .int .i64 N, .int .i64 D, .int .i64 V]] w fun e w' => e = .returned (.tuple #[(Pm.take ⟨3, n, d, r, l, b, g, k⟩ 6 N D V).1.V, .bool (Pm.take ⟨3, n, d, r, l, b, g, k⟩ 6 N D V).2]) ∧ Below w.heap.size w w' := by
  have HT : Pm.take ⟨3, n, d, r, l, b, g, k⟩ 6 N D V = (⟨0, n, d, r, 0, 0, g, 0⟩, true) := by unfold Pm.take; rw [or_yes ho, ok_yes hp]; simp
  rw [HT]
  exact (pauI_n 3 n d r l b g k 6 N D V rfl (fun w => (alwI_6 3 n d r l b g k N D V w)) w)
theorem pulW_1 (n d r l b g k : Int) (hp : Pm.ok ⟨1, n, d, r, l, b, g, k⟩) (w : World) : Calls Tryz.prog 68 #[PV 1 n d r l b g k] w fun e w' => e = .returned (.int .i64 (Pm.wants ⟨1, n, d, r, l, b, g, k⟩)) ∧ Below w.heap.size w w' := by
  obtain ⟨y, hy⟩ : ∃ y, (r + n) / d = y := ⟨_, rfl⟩
  have hrt := rate_bd hp
  unfold Pm.rate at hrt
  dsimp only at hrt
  rw [hy] at hrt
  obtain ⟨y0, y1⟩ := hrt
  have hpb : (0 : Int) ≤ b ∧ b ≤ 100 := hp.2.2.2.2.2.1
  have hpl : (0 : Int) ≤ l ∧ l ≤ 5000 := hp.2.2.2.1
  have hpg : (0 : Int) ≤ g ∧ g ≤ 1000000000000 := hp.2.2.2.2.2.2.1
  obtain ⟨q, hq⟩ : ∃ q, min b 3 = q := ⟨_, rfl⟩
  have hrr : ratR n d r := hp.2.1
  have KR : Hid (∀ w, Calls Tryz.prog 123 #[.agg #[.int .i64 n, .int .i64 d, .int .i64 r]] w fun e w' => e = .returned (.tuple #[.agg #[.int .i64 n, .int .i64 d, .int .i64 ((r + n) % d)], .int .i64 y]) ∧ Below w.heap.size w w') := fun w => by
    have h := stepRI n d r w
    rw [show stepR n d r = (r + n) % d from if_pos hrr, show stepO n d r = y from (if_pos hrr).trans hy] at h
    exact h
  by_cases hm : y ≤ l
  · have HT : Pm.wants ⟨1, n, d, r, l, b, g, k⟩ = y + q := by
      unfold Pm.wants Pm.base Pm.rate
      rw [ok_yes hp]
      simp [hy, hq]
      omega
    rw [HT]
    exact bpuI_y 1 n d r l b g k _ y q (y + q) KR hm hq (wrap_in (by omega) (by omega)) w
  · have HT : Pm.wants ⟨1, n, d, r, l, b, g, k⟩ = l + q := by
      unfold Pm.wants Pm.base Pm.rate
      rw [ok_yes hp]
      simp [hy, hq]
      omega
    rw [HT]
    exact bpuI_l 1 n d r l b g k _ y q (l + q) KR hm hq (wrap_in (by omega) (by omega)) w
theorem pulW_2 (n d r l b g k : Int) (hp : Pm.ok ⟨2, n, d, r, l, b, g, k⟩) (w : World) : Calls Tryz.prog 71 #[PV 2 n d r l b g k] w fun e w' => e = .returned (.int .i64 (Pm.wants ⟨2, n, d, r, l, b, g, k⟩)) ∧ Below w.heap.size w w' := by
  obtain ⟨y, hy⟩ : ∃ y, (r + n) / d = y := ⟨_, rfl⟩
  have hrt := rate_bd hp
  unfold Pm.rate at hrt
  dsimp only at hrt
  rw [hy] at hrt
  obtain ⟨y0, y1⟩ := hrt
  have hpb : (0 : Int) ≤ b ∧ b ≤ 100 := hp.2.2.2.2.2.1
  have hpl : (0 : Int) ≤ l ∧ l ≤ 5000 := hp.2.2.2.1
  have hpg : (0 : Int) ≤ g ∧ g ≤ 1000000000000 := hp.2.2.2.2.2.2.1
  obtain ⟨q, hq⟩ : ∃ q, min b 3 = q := ⟨_, rfl⟩
  have hrr : ratR n d r := hp.2.1
  have KR : Hid (∀ w, Calls Tryz.prog 123 #[.agg #[.int .i64 n, .int .i64 d, .int .i64 r]] w fun e w' => e = .returned (.tuple #[.agg #[.int .i64 n, .int .i64 d, .int .i64 ((r + n) % d)], .int .i64 y]) ∧ Below w.heap.size w w') := fun w => by
    have h := stepRI n d r w
    rw [show stepR n d r = (r + n) % d from if_pos hrr, show stepO n d r = y from (if_pos hrr).trans hy] at h
    exact h
  have HT : Pm.wants ⟨2, n, d, r, l, b, g, k⟩ = y + q := by
    unfold Pm.wants Pm.base Pm.rate
    rw [ok_yes hp]
    simp [hy, hq]
  rw [HT]
  exact kpuI 2 n d r l b g k _ y q (y + q) KR hq (wrap_in (by omega) (by omega)) w
theorem gvW_1 (n d r l b g k m : Int) (hp : Pm.ok ⟨1, n, d, r, l, b, g, k⟩) (h0 : 0 ≤ m) (h1 : m ≤ Pm.wants ⟨1, n, d, r, l, b, g, k⟩) (w : World) : Calls Tryz.prog 69 #[PV 1 n d r l b g k, .int .i64 m] w fun e w' => e = .returned (Pm.give ⟨1, n, d, r, l, b, g, k⟩ m).V ∧ Below w.heap.size w w' := by
  obtain ⟨y, hy⟩ : ∃ y, (r + n) / d = y := ⟨_, rfl⟩
  have hrt := rate_bd hp
  unfold Pm.rate at hrt
  dsimp only at hrt
  rw [hy] at hrt
  obtain ⟨y0, y1⟩ := hrt
  have hpb : (0 : Int) ≤ b ∧ b ≤ 100 := hp.2.2.2.2.2.1
  have hpl : (0 : Int) ≤ l ∧ l ≤ 5000 := hp.2.2.2.1
  have hpg : (0 : Int) ≤ g ∧ g ≤ 1000000000000 := hp.2.2.2.2.2.2.1
  obtain ⟨q, hq⟩ : ∃ q, min b 3 = q := ⟨_, rfl⟩
  have hrr : ratR n d r := hp.2.1
  have KR : Hid (∀ w, Calls Tryz.prog 123 #[.agg #[.int .i64 n, .int .i64 d, .int .i64 r]] w fun e w' => e = .returned (.tuple #[.agg #[.int .i64 n, .int .i64 d, .int .i64 ((r + n) % d)], .int .i64 y]) ∧ Below w.heap.size w w') := fun w => by
    have h := stepRI n d r w
    rw [show stepR n d r = (r + n) % d from if_pos hrr, show stepO n d r = y from (if_pos hrr).trans hy] at h
    exact h
  obtain ⟨W, hW⟩ : ∃ W, Pm.wants ⟨1, n, d, r, l, b, g, k⟩ = W := ⟨_, rfl⟩
  have hwb := wants_bd ⟨1, n, d, r, l, b, g, k⟩
  have hwr := wants_run hp (Or.inl rfl)
  have hbb := base_bd hp
  dsimp only at hwr hbb
  rw [hW] at hwb hwr h1
  rw [hq] at hwr
  have hme : max (min m (Pm.wants ⟨1, n, d, r, l, b, g, k⟩)) 0 = m := by rw [hW]; omega
  have hm0 : 0 ≤ m ∧ m ≤ W := by omega
  have KA : Hid (∀ w, Calls Tryz.prog 124 #[.int .i64 g, .int .i64 m] w fun e w' => e = .returned (.int .i64 (min (g + m) 1000000000000)) ∧ Below w.heap.size w w') := fun w => addI g m g m (g + m) _ (show _ = _ from (by omega)) (show _ = _ from (by omega)) (wrap_in (by omega) (by omega)) (show _ = _ from (by omega)) w
  generalize Pm.base ⟨1, n, d, r, l, b, g, k⟩ = base at hwr hbb
  by_cases hmq : m ≤ q
  · have hl0 : 0 < l := hp.2.2.2.2.1.2 (Or.inl rfl)
    have eL : IntKind.i64.wrap (l - 0) = l := (wrap_in (by omega) (by omega)).trans (by omega)
    have hLz : (l == 0) = false := by simp; omega
    have HT : Pm.give ⟨1, n, d, r, l, b, g, k⟩ m = ⟨1, n, d, ((r + n) % d), l, (b - m), (min (g + m) 1000000000000), k⟩ := by
      unfold Pm.give
      rw [ok_yes hp]
      unfold Pm.giveR
      dsimp only
      rw [hme, hq, show min m q = m from (by omega)]
      simp; omega
    rw [HT]
    exact gbI_n 1 n d r l b g k m 0 1 n d ((r + n) % d) l (b - m) (min (g + m) 1000000000000) k (fun w => tikI_a 1 n d r l b g k m ((r + n) % d) y q (b - m) (min (g + m) 1000000000000) KR KA hq hmq (wrap_in (by omega) (by omega)) w) (L := l) eL hLz w
  · have hl0 : base ≤ l := hbb.2.2 rfl
    by_cases hz : l - (m - q) = 0
    · have eL : IntKind.i64.wrap (l - (m - q)) = 0 := (wrap_in (by omega) (by omega)).trans (by omega)
      have HT : Pm.give ⟨1, n, d, r, l, b, g, k⟩ m = ⟨2, 1, 50, 0, 0, (b - q), (min (g + m) 1000000000000), k⟩ := by
        unfold Pm.give
        rw [ok_yes hp]
        unfold Pm.giveR
        dsimp only
        rw [hme, hq, show min m q = q from (by omega)]
        simp [hz]
      rw [HT]
      exact gbI_0 1 n d r l b g k m (m - q) 1 n d ((r + n) % d) l (b - q) (min (g + m) 1000000000000) k (fun w => tikI_q 1 n d r l b g k m ((r + n) % d) y q (b - q) (min (g + m) 1000000000000) (m - q) KR KA hq hmq (wrap_in (by omega) (by omega)) (wrap_in (by omega) (by omega)) w) eL w
    · have eL : IntKind.i64.wrap (l - (m - q)) = (l - (m - q)) := (wrap_in (by omega) (by omega)).trans (by omega)
      have hLz : ((l - (m - q)) == 0) = false := by simp; omega
      have HT : Pm.give ⟨1, n, d, r, l, b, g, k⟩ m = ⟨1, n, d, ((r + n) % d), (l - (m - q)), (b - q), (min (g + m) 1000000000000), k⟩ := by
        unfold Pm.give
        rw [ok_yes hp]
        unfold Pm.giveR
        dsimp only
        rw [hme, hq, show min m q = q from (by omega)]
        simp [hz]
      rw [HT]
      exact gbI_n 1 n d r l b g k m (m - q) 1 n d ((r + n) % d) l (b - q) (min (g + m) 1000000000000) k (fun w => tikI_q 1 n d r l b g k m ((r + n) % d) y q (b - q) (min (g + m) 1000000000000) (m - q) KR KA hq hmq (wrap_in (by omega) (by omega)) (wrap_in (by omega) (by omega)) w) (L := (l - (m - q))) eL hLz w
theorem gvW_2 (n d r l b g k m : Int) (hp : Pm.ok ⟨2, n, d, r, l, b, g, k⟩) (h0 : 0 ≤ m) (h1 : m ≤ Pm.wants ⟨2, n, d, r, l, b, g, k⟩) (w : World) : Calls Tryz.prog 72 #[PV 2 n d r l b g k, .int .i64 m] w fun e w' => e = .returned (Pm.give ⟨2, n, d, r, l, b, g, k⟩ m).V ∧ Below w.heap.size w w' := by
  obtain ⟨y, hy⟩ : ∃ y, (r + n) / d = y := ⟨_, rfl⟩
  have hrt := rate_bd hp
  unfold Pm.rate at hrt
  dsimp only at hrt
  rw [hy] at hrt
  obtain ⟨y0, y1⟩ := hrt
  have hpb : (0 : Int) ≤ b ∧ b ≤ 100 := hp.2.2.2.2.2.1
  have hpl : (0 : Int) ≤ l ∧ l ≤ 5000 := hp.2.2.2.1
  have hpg : (0 : Int) ≤ g ∧ g ≤ 1000000000000 := hp.2.2.2.2.2.2.1
  obtain ⟨q, hq⟩ : ∃ q, min b 3 = q := ⟨_, rfl⟩
  have hrr : ratR n d r := hp.2.1
  have KR : Hid (∀ w, Calls Tryz.prog 123 #[.agg #[.int .i64 n, .int .i64 d, .int .i64 r]] w fun e w' => e = .returned (.tuple #[.agg #[.int .i64 n, .int .i64 d, .int .i64 ((r + n) % d)], .int .i64 y]) ∧ Below w.heap.size w w') := fun w => by
    have h := stepRI n d r w
    rw [show stepR n d r = (r + n) % d from if_pos hrr, show stepO n d r = y from (if_pos hrr).trans hy] at h
    exact h
  obtain ⟨W, hW⟩ : ∃ W, Pm.wants ⟨2, n, d, r, l, b, g, k⟩ = W := ⟨_, rfl⟩
  have hwb := wants_bd ⟨2, n, d, r, l, b, g, k⟩
  have hwr := wants_run hp (Or.inr rfl)
  have hbb := base_bd hp
  dsimp only at hwr hbb
  rw [hW] at hwb hwr h1
  rw [hq] at hwr
  have hme : max (min m (Pm.wants ⟨2, n, d, r, l, b, g, k⟩)) 0 = m := by rw [hW]; omega
  have hm0 : 0 ≤ m ∧ m ≤ W := by omega
  have KA : Hid (∀ w, Calls Tryz.prog 124 #[.int .i64 g, .int .i64 m] w fun e w' => e = .returned (.int .i64 (min (g + m) 1000000000000)) ∧ Below w.heap.size w w') := fun w => addI g m g m (g + m) _ (show _ = _ from (by omega)) (show _ = _ from (by omega)) (wrap_in (by omega) (by omega)) (show _ = _ from (by omega)) w
  generalize Pm.base ⟨2, n, d, r, l, b, g, k⟩ = base at hwr hbb
  by_cases hmq : m ≤ q
  · have HT : Pm.give ⟨2, n, d, r, l, b, g, k⟩ m = ⟨2, n, d, ((r + n) % d), l, (b - m), (min (g + m) 1000000000000), k⟩ := by
      unfold Pm.give
      rw [ok_yes hp]
      unfold Pm.giveR
      dsimp only
      rw [hme, hq, show min m q = m from (by omega)]
      simp
    rw [HT]
    exact gkI 2 n d r l b g k m 0 2 n d ((r + n) % d) l (b - m) (min (g + m) 1000000000000) k (fun w => tikI_a 2 n d r l b g k m ((r + n) % d) y q (b - m) (min (g + m) 1000000000000) KR KA hq hmq (wrap_in (by omega) (by omega)) w) w
  · have HT : Pm.give ⟨2, n, d, r, l, b, g, k⟩ m = ⟨2, n, d, ((r + n) % d), l, (b - q), (min (g + m) 1000000000000), k⟩ := by
      unfold Pm.give
      rw [ok_yes hp]
      unfold Pm.giveR
      dsimp only
      rw [hme, hq, show min m q = q from (by omega)]
      simp
    rw [HT]
    exact gkI 2 n d r l b g k m (m - q) 2 n d ((r + n) % d) l (b - q) (min (g + m) 1000000000000) k (fun w => tikI_q 2 n d r l b g k m ((r + n) % d) y q (b - q) (min (g + m) 1000000000000) (m - q) KR KA hq hmq (wrap_in (by omega) (by omega)) (wrap_in (by omega) (by omega)) w) w
/-- the functions of a right pump's state: what it takes, wants, gives -/
structure StP (p : Pm) (T P G : Nat) : Prop where
  ct : ∀ args w, (callFunc T args).run Tryz.prog w = .ok (.enter T args) w
  cp : ∀ args w, (callFunc P args).run Tryz.prog w = .ok (.enter P args) w
  cg : ∀ args w, (callFunc G args).run Tryz.prog w = .ok (.enter G args) w
  st : ∀ w, Calls Tryz.prog 46 #[.agg #[.int .i64 p.s, .int .i64 p.n, .int .i64 p.d, .int .i64 p.r, .int .i64 p.l, .int .i64 p.b, .int .i64 p.g, .int .i64 p.k]] w fun e w' => e = .returned (.agg #[.func (.func T) #[.agg #[.int .i64 p.s, .int .i64 p.n, .int .i64 p.d, .int .i64 p.r, .int .i64 p.l, .int .i64 p.b, .int .i64 p.g, .int .i64 p.k]] #[], .func (.func P) #[.agg #[.int .i64 p.s, .int .i64 p.n, .int .i64 p.d, .int .i64 p.r, .int .i64 p.l, .int .i64 p.b, .int .i64 p.g, .int .i64 p.k]] #[], .func (.func G) #[.agg #[.int .i64 p.s, .int .i64 p.n, .int .i64 p.d, .int .i64 p.r, .int .i64 p.l, .int .i64 p.b, .int .i64 p.g, .int .i64 p.k]] #[]]) ∧ Below w.heap.size w w'
  tk : ∀ K N D V w, OrdR K N D V → Calls Tryz.prog T #[.agg #[.int .i64 p.s, .int .i64 p.n, .int .i64 p.d, .int .i64 p.r, .int .i64 p.l, .int .i64 p.b, .int .i64 p.g, .int .i64 p.k], .agg #[.int .i64 K, .int .i64 N, .int .i64 D, .int .i64 V]] w fun e w' => e = .returned (.tuple #[(p.take K N D V).1.V, .bool (p.take K N D V).2]) ∧ Below w.heap.size w w'
  pu : ∀ w, Calls Tryz.prog P #[.agg #[.int .i64 p.s, .int .i64 p.n, .int .i64 p.d, .int .i64 p.r, .int .i64 p.l, .int .i64 p.b, .int .i64 p.g, .int .i64 p.k]] w fun e w' => e = .returned (.int .i64 p.wants) ∧ Below w.heap.size w w'
  gv : ∀ m w, 0 ≤ m → m ≤ p.wants → Calls Tryz.prog G #[.agg #[.int .i64 p.s, .int .i64 p.n, .int .i64 p.d, .int .i64 p.r, .int .i64 p.l, .int .i64 p.b, .int .i64 p.g, .int .i64 p.k], .int .i64 m] w fun e w' => e = .returned (p.give m).V ∧ Below w.heap.size w w'
theorem stateW (p : Pm) (hp : p.ok) : ∃ T P G, StP p T P G := by
  obtain ⟨s, n, d, r, l, b, g, k⟩ := p
  have hs : s = 0 ∨ s = 1 ∨ s = 2 ∨ s = 3 := by have := hp.1; dsimp only at this; omega
  have hb : 0 ≤ b := hp.2.2.2.2.2.1.1
  rcases hs with rfl | rfl | rfl | rfl
  · refine ⟨76, 74, 75, fun args w => by kernel_rfl, fun args w => by kernel_rfl, fun args w => by kernel_rfl, fun w => stI_0 n d r l b g k w, fun K N D V w ho => ?_, fun w => ?_, fun m w h0 h1 => ?_⟩
    · have hk : K = 1 ∨ K = 2 ∨ K = 3 ∨ K = 4 ∨ K = 5 ∨ K = 6 := by have := ho.bd; omega
      rcases hk with rfl | rfl | rfl | rfl | rfl | rfl
      · exact tkW_1_0 n d r l b g k N D V hp ho w
      · exact tkW_2_0 n d r l b g k N D V hp ho w
      · exact tkW_3_0 n d r l b g k N D V hp ho w
      · exact tkW_4_0 n d r l b g k N D V hp ho w
      · exact tkW_5_0 n d r l b g k N D V hp ho w
      · exact tkW_6_0 n d r l b g k N D V hp ho w
    · have HT : Pm.wants ⟨0, n, d, r, l, b, g, k⟩ = 0 := by unfold Pm.wants; simp
      rw [HT]
      exact npI 0 n d r l b g k w
    · have HT : Pm.give ⟨0, n, d, r, l, b, g, k⟩ m = ⟨0, n, d, r, l, b, g, k⟩ := by unfold Pm.give; simp
      rw [HT]
      exact nothI 0 n d r l b g k m w
  · refine ⟨67, 68, 69, fun args w => by kernel_rfl, fun args w => by kernel_rfl, fun args w => by kernel_rfl, fun w => stI_1 n d r l b g k w, fun K N D V w ho => ?_, fun w => ?_, fun m w h0 h1 => ?_⟩
    · have hk : K = 1 ∨ K = 2 ∨ K = 3 ∨ K = 4 ∨ K = 5 ∨ K = 6 := by have := ho.bd; omega
      rcases hk with rfl | rfl | rfl | rfl | rfl | rfl
      · exact tkW_1_1 n d r l b g k N D V hp ho w
      · by_cases hb0 : 0 < b
        · exact tkW_2_1b1 n d r l b g k N D V hp ho hb0 w
        · obtain rfl : b = 0 := by omega
          exact tkW_2_1b0 n d r l g k N D V hp ho w
      · exact tkW_3_1 n d r l b g k N D V hp ho w
      · exact tkW_4_1 n d r l b g k N D V hp ho w
      · exact tkW_5_1 n d r l b g k N D V hp ho w
      · exact tkW_6_1 n d r l b g k N D V hp ho w
    · exact pulW_1 n d r l b g k hp w
    · exact gvW_1 n d r l b g k m hp h0 h1 w
  · refine ⟨70, 71, 72, fun args w => by kernel_rfl, fun args w => by kernel_rfl, fun args w => by kernel_rfl, fun w => stI_2 n d r l b g k w, fun K N D V w ho => ?_, fun w => ?_, fun m w h0 h1 => ?_⟩
    · have hk : K = 1 ∨ K = 2 ∨ K = 3 ∨ K = 4 ∨ K = 5 ∨ K = 6 := by have := ho.bd; omega
      rcases hk with rfl | rfl | rfl | rfl | rfl | rfl
      · exact tkW_1_2 n d r l b g k N D V hp ho w
      · by_cases hb0 : 0 < b
        · exact tkW_2_2b1 n d r l b g k N D V hp ho hb0 w
        · obtain rfl : b = 0 := by omega
          exact tkW_2_2b0 n d r l g k N D V hp ho w
      · exact tkW_3_2 n d r l b g k N D V hp ho w
      · exact tkW_4_2 n d r l b g k N D V hp ho w
      · exact tkW_5_2 n d r l b g k N D V hp ho w
      · exact tkW_6_2 n d r l b g k N D V hp ho w
    · exact pulW_2 n d r l b g k hp w
    · exact gvW_2 n d r l b g k m hp h0 h1 w
  · refine ⟨73, 74, 75, fun args w => by kernel_rfl, fun args w => by kernel_rfl, fun args w => by kernel_rfl, fun w => stI_3 n d r l b g k w, fun K N D V w ho => ?_, fun w => ?_, fun m w h0 h1 => ?_⟩
    · have hk : K = 1 ∨ K = 2 ∨ K = 3 ∨ K = 4 ∨ K = 5 ∨ K = 6 := by have := ho.bd; omega
      rcases hk with rfl | rfl | rfl | rfl | rfl | rfl
      · exact tkW_1_3 n d r l b g k N D V hp ho w
      · exact tkW_2_3 n d r l b g k N D V hp ho w
      · exact tkW_3_3 n d r l b g k N D V hp ho w
      · exact tkW_4_3 n d r l b g k N D V hp ho w
      · exact tkW_5_3 n d r l b g k N D V hp ho w
      · exact tkW_6_3 n d r l b g k N D V hp ho w
    · have HT : Pm.wants ⟨3, n, d, r, l, b, g, k⟩ = 0 := by unfold Pm.wants; simp
      rw [HT]
      exact npI 3 n d r l b g k w
    · have HT : Pm.give ⟨3, n, d, r, l, b, g, k⟩ m = ⟨3, n, d, r, l, b, g, k⟩ := by unfold Pm.give; simp
      rw [HT]
      exact nothI 3 n d r l b g k m w
end Go.Proofs.YtdifmjcghaoilaaGreatDoor
