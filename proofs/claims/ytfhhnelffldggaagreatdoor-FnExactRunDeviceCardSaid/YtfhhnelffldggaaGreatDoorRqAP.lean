/-
  Small functions of the program's pump.
-/
import Derived.Test.YtfhhnelffldggaaGreatDoorRqAG
import Derived.Laws.EntriesVeiled
set_option maxRecDepth 100000
set_option maxHeartbeats 16000000
namespace Go.Proofs.YtfhhnelffldggaaGreatDoor
open Go.RowKit Go.PlainAid
set_option linter.unusedVariables false
set_option linter.unusedSimpArgs false
theorem intoI (l m n z : Int) (hz : min (max n l) m = z) (w : World) : Calls Tryz.prog 149 #[.agg #[.int .i64 l, .int .i64 m], .int .i64 n] w fun e w' => e = .returned (.int .i64 z) ∧ Below w.heap.size w w' := by
  by_cases h1 : l ≤ n
  · by_cases h2 : n ≤ m
    · obtain rfl : n = z := by omega
      clear hz
      go_enter Tryz.func149, Tryz.ntmps149
      go_wp2
      go_ret
      exact ⟨rfl, (Below.refl _ _).alloc (Nat.le_refl _) _⟩
    · obtain rfl : m = z := by omega
      clear hz
      go_enter Tryz.func149, Tryz.ntmps149
      go_wp2
      go_ret
      exact ⟨rfl, (Below.refl _ _).alloc (Nat.le_refl _) _⟩
  · by_cases h2 : l ≤ m
    · obtain rfl : l = z := by omega
      clear hz
      go_enter Tryz.func149, Tryz.ntmps149
      go_wp2
      go_ret
      exact ⟨rfl, (Below.refl _ _).alloc (Nat.le_refl _) _⟩
    · obtain rfl : m = z := by omega
      clear hz
      go_enter Tryz.func149, Tryz.ntmps149
      go_wp2
      go_ret
      exact ⟨rfl, (Below.refl _ _).alloc (Nat.le_refl _) _⟩
theorem bigI (w : World) : Calls Tryz.prog 148 #[] w fun e w' => e = .returned (.agg #[.int .i64 (-1000000000000), .int .i64 1000000000000]) ∧ Below w.heap.size w w' := by
  go_enter Tryz.func148, Tryz.ntmps148
  go_wp2
  refine bodyPost_ret (v := .agg #[.int .i64 (-1000000000000), .int .i64 1000000000000]) (by simp [results, Tryz.results148, go_sem]) rfl ⟨rfl, ?_⟩
  exact (Below.refl _ _).alloc (Nat.le_refl _) _
theorem bolI (s n d r l b g k z : Int) (hz : min b 3 = z) (w : World) : Calls Tryz.prog 173 #[PV s n d r l b g k] w fun e w' => e = .returned (.int .i64 z) ∧ Below w.heap.size w w' := by
  have HB0 : Hid (Below w.heap.size w (w.alloc (PB s n d r l b g k))) := alP _ _
  have HP0 : Hid ((w.alloc (PB s n d r l b g k)).heap[w.heap.size]? = some (PB s n d r l b g k)) := heap_new w _
  have p0 := box8_cells HP0.out
  by_cases h : b ≤ 3
  · obtain rfl : b = z := by omega
    have e1 : min b 3 = b := by omega
    clear hz
    go_enter Tryz.func173, Tryz.ntmps173
    go_wp2
    go_ret
    exact ⟨rfl, HB0.out⟩
  · obtain rfl : 3 = z := by omega
    have e1 : min b 3 = 3 := by omega
    clear hz
    go_enter Tryz.func173, Tryz.ntmps173
    go_wp2
    go_ret
    exact ⟨rfl, HB0.out⟩
theorem rtpI (s n d r l b g k r' y : Int) (KR : Hid (∀ w, Calls Tryz.prog 185 #[.agg #[.int .i64 n, .int .i64 d, .int .i64 r]] w fun e w' => e = .returned (.tuple #[.agg #[.int .i64 n, .int .i64 d, .int .i64 r'], .int .i64 y]) ∧ Below w.heap.size w w')) (w : World) : Calls Tryz.prog 172 #[PV s n d r l b g k] w fun e w' => e = .returned (.int .i64 y) ∧ Below w.heap.size w w' := by
  have HB0 : Hid (Below w.heap.size w (w.alloc (PB s n d r l b g k))) := alP _ _
  have HP0 : Hid ((w.alloc (PB s n d r l b g k)).heap[w.heap.size]? = some (PB s n d r l b g k)) := heap_new w _
  have p0 := box8_cells HP0.out
  go_enter Tryz.func172, Tryz.ntmps172
  go_wp2_with fail
  refine Calls.mono (KR.out _) ?_
  rintro e w1 ⟨rfl, hb1⟩
  have HB1 : Hid (Below w.heap.size w (w1.alloc (.cells #[.int .i64 n, .int .i64 d, .int .i64 r'] 27))) := bel_on (Nat.le_refl _) (bel_on (Nat.le_refl _) HB0.out hb1) (alP _ _)
  clear hb1
  go_wp2
  go_ret
  exact ⟨rfl, HB1.out⟩
theorem npI (s n d r l b g k : Int) (w : World) : Calls Tryz.prog 140 #[PV s n d r l b g k] w fun e w' => e = .returned (.int .i64 0) ∧ Below w.heap.size w w' := by
  have HB0 : Hid (Below w.heap.size w (w.alloc (PB s n d r l b g k))) := alP _ _
  have HP0 : Hid ((w.alloc (PB s n d r l b g k)).heap[w.heap.size]? = some (PB s n d r l b g k)) := heap_new w _
  have p0 := box8_cells HP0.out
  go_enter Tryz.func140, Tryz.ntmps140
  go_wp2
  go_ret
  exact ⟨rfl, HB0.out⟩
theorem nothI (s n d r l b g k a : Int) (w : World) : Calls Tryz.prog 141 #[PV s n d r l b g k, .int .i64 a] w fun e w' => e = .returned (PV s n d r l b g k) ∧ Below w.heap.size w w' := by
  have HB0 : Hid (Below w.heap.size w ((w.alloc (PB s n d r l b g k)).alloc (PB 0 0 0 0 0 0 0 0))) := bel_on (Nat.le_refl _) (alP _ _) (alP _ _)
  have HP0 : Hid (((w.alloc (PB s n d r l b g k)).alloc (PB 0 0 0 0 0 0 0 0)).heap[w.heap.size]? = some (PB s n d r l b g k)) := row_on (heap_new w _) (alP _ _)
  have HZ0 : Hid (((w.alloc (PB s n d r l b g k)).alloc (PB 0 0 0 0 0 0 0 0)).heap[w.heap.size + 1]? = some (PB 0 0 0 0 0 0 0 0)) := al_at (w.alloc (PB s n d r l b g k)) _ (by simp)
  have p0 := box8_cells HP0.out
  go_enter Tryz.func141, Tryz.ntmps141
  go_upto_region 1 with fail
  go_wp2_with (refine listStoreP rfl rfl _ _ _ rfl rfl (w.heap.size + 1) (s) (n) (d) (r) (l) (b) (g) (k) rfl rfl HZ0.out ?_)
  intro w99 hr9 ho9 hs9 hB9
  have HF : Hid (Below w.heap.size w w99) := hB9 _ _ (Nat.le_succ _) HB0.out
  obtain ⟨⟨q0, q1, q2, q3, q4, q5, q6, q7⟩, _⟩ := box8_cells hr9
  clear ho9 hs9 hB9 hr9
  go_wp2
  refine bodyPost_ret (v := PV s n d r l b g k) (by simp only [results, Tryz.results141]; simp [go_sem, q0, q1, q2, q3, q4, q5, q6, q7]) rfl ⟨rfl, HF.out⟩
theorem stI_0 (n d r l b g k : Int) (w : World) : Calls Tryz.prog 83 #[PV 0 n d r l b g k] w fun e w' => e = .returned (.agg #[.func (.func 142) #[.agg #[.int .i64 0, .int .i64 n, .int .i64 d, .int .i64 r, .int .i64 l, .int .i64 b, .int .i64 g, .int .i64 k]] #[], .func (.func 140) #[.agg #[.int .i64 0, .int .i64 n, .int .i64 d, .int .i64 r, .int .i64 l, .int .i64 b, .int .i64 g, .int .i64 k]] #[], .func (.func 141) #[.agg #[.int .i64 0, .int .i64 n, .int .i64 d, .int .i64 r, .int .i64 l, .int .i64 b, .int .i64 g, .int .i64 k]] #[]]) ∧ Below w.heap.size w w' := by
  have HB0 : Hid (Below w.heap.size w (w.alloc (PB 0 n d r l b g k))) := alP _ _
  have HP0 : Hid ((w.alloc (PB 0 n d r l b g k)).heap[w.heap.size]? = some (PB 0 n d r l b g k)) := heap_new w _
  have p0 := box8_cells HP0.out
  go_enter Tryz.func83, Tryz.ntmps83
  go_wp2
  refine bodyPost_ret (v := .agg #[.func (.func 142) #[.agg #[.int .i64 0, .int .i64 n, .int .i64 d, .int .i64 r, .int .i64 l, .int .i64 b, .int .i64 g, .int .i64 k]] #[], .func (.func 140) #[.agg #[.int .i64 0, .int .i64 n, .int .i64 d, .int .i64 r, .int .i64 l, .int .i64 b, .int .i64 g, .int .i64 k]] #[], .func (.func 141) #[.agg #[.int .i64 0, .int .i64 n, .int .i64 d, .int .i64 r, .int .i64 l, .int .i64 b, .int .i64 g, .int .i64 k]] #[]]) (by simp [results, Tryz.results83, go_sem]) rfl ⟨rfl, ?_⟩
  exact bel_on (Nat.le_refl _) HB0.out (alP _ _)
theorem stI_1 (n d r l b g k : Int) (w : World) : Calls Tryz.prog 83 #[PV 1 n d r l b g k] w fun e w' => e = .returned (.agg #[.func (.func 133) #[.agg #[.int .i64 1, .int .i64 n, .int .i64 d, .int .i64 r, .int .i64 l, .int .i64 b, .int .i64 g, .int .i64 k]] #[], .func (.func 134) #[.agg #[.int .i64 1, .int .i64 n, .int .i64 d, .int .i64 r, .int .i64 l, .int .i64 b, .int .i64 g, .int .i64 k]] #[], .func (.func 135) #[.agg #[.int .i64 1, .int .i64 n, .int .i64 d, .int .i64 r, .int .i64 l, .int .i64 b, .int .i64 g, .int .i64 k]] #[]]) ∧ Below w.heap.size w w' := by
  have HB0 : Hid (Below w.heap.size w (w.alloc (PB 1 n d r l b g k))) := alP _ _
  have HP0 : Hid ((w.alloc (PB 1 n d r l b g k)).heap[w.heap.size]? = some (PB 1 n d r l b g k)) := heap_new w _
  have p0 := box8_cells HP0.out
  go_enter Tryz.func83, Tryz.ntmps83
  go_wp2
  refine bodyPost_ret (v := .agg #[.func (.func 133) #[.agg #[.int .i64 1, .int .i64 n, .int .i64 d, .int .i64 r, .int .i64 l, .int .i64 b, .int .i64 g, .int .i64 k]] #[], .func (.func 134) #[.agg #[.int .i64 1, .int .i64 n, .int .i64 d, .int .i64 r, .int .i64 l, .int .i64 b, .int .i64 g, .int .i64 k]] #[], .func (.func 135) #[.agg #[.int .i64 1, .int .i64 n, .int .i64 d, .int .i64 r, .int .i64 l, .int .i64 b, .int .i64 g, .int .i64 k]] #[]]) (by simp [results, Tryz.results83, go_sem]) rfl ⟨rfl, ?_⟩
  exact bel_on (Nat.le_refl _) HB0.out (alP _ _)
theorem stI_2 (n d r l b g k : Int) (w : World) : Calls Tryz.prog 83 #[PV 2 n d r l b g k] w fun e w' => e = .returned (.agg #[.func (.func 136) #[.agg #[.int .i64 2, .int .i64 n, .int .i64 d, .int .i64 r, .int .i64 l, .int .i64 b, .int .i64 g, .int .i64 k]] #[], .func (.func 137) #[.agg #[.int .i64 2, .int .i64 n, .int .i64 d, .int .i64 r, .int .i64 l, .int .i64 b, .int .i64 g, .int .i64 k]] #[], .func (.func 138) #[.agg #[.int .i64 2, .int .i64 n, .int .i64 d, .int .i64 r, .int .i64 l, .int .i64 b, .int .i64 g, .int .i64 k]] #[]]) ∧ Below w.heap.size w w' := by
  have HB0 : Hid (Below w.heap.size w (w.alloc (PB 2 n d r l b g k))) := alP _ _
  have HP0 : Hid ((w.alloc (PB 2 n d r l b g k)).heap[w.heap.size]? = some (PB 2 n d r l b g k)) := heap_new w _
  have p0 := box8_cells HP0.out
  go_enter Tryz.func83, Tryz.ntmps83
  go_wp2
  refine bodyPost_ret (v := .agg #[.func (.func 136) #[.agg #[.int .i64 2, .int .i64 n, .int .i64 d, .int .i64 r, .int .i64 l, .int .i64 b, .int .i64 g, .int .i64 k]] #[], .func (.func 137) #[.agg #[.int .i64 2, .int .i64 n, .int .i64 d, .int .i64 r, .int .i64 l, .int .i64 b, .int .i64 g, .int .i64 k]] #[], .func (.func 138) #[.agg #[.int .i64 2, .int .i64 n, .int .i64 d, .int .i64 r, .int .i64 l, .int .i64 b, .int .i64 g, .int .i64 k]] #[]]) (by simp [results, Tryz.results83, go_sem]) rfl ⟨rfl, ?_⟩
  exact bel_on (Nat.le_refl _) HB0.out (alP _ _)
theorem stI_3 (n d r l b g k : Int) (w : World) : Calls Tryz.prog 83 #[PV 3 n d r l b g k] w fun e w' => e = .returned (.agg #[.func (.func 139) #[.agg #[.int .i64 3, .int .i64 n, .int .i64 d, .int .i64 r, .int .i64 l, .int .i64 b, .int .i64 g, .int .i64 k]] #[], .func (.func 140) #[.agg #[.int .i64 3, .int .i64 n, .int .i64 d, .int .i64 r, .int .i64 l, .int .i64 b, .int .i64 g, .int .i64 k]] #[], .func (.func 141) #[.agg #[.int .i64 3, .int .i64 n, .int .i64 d, .int .i64 r, .int .i64 l, .int .i64 b, .int .i64 g, .int .i64 k]] #[]]) ∧ Below w.heap.size w w' := by
  have HB0 : Hid (Below w.heap.size w (w.alloc (PB 3 n d r l b g k))) := alP _ _
  have HP0 : Hid ((w.alloc (PB 3 n d r l b g k)).heap[w.heap.size]? = some (PB 3 n d r l b g k)) := heap_new w _
  have p0 := box8_cells HP0.out
  go_enter Tryz.func83, Tryz.ntmps83
  go_wp2
  refine bodyPost_ret (v := .agg #[.func (.func 139) #[.agg #[.int .i64 3, .int .i64 n, .int .i64 d, .int .i64 r, .int .i64 l, .int .i64 b, .int .i64 g, .int .i64 k]] #[], .func (.func 140) #[.agg #[.int .i64 3, .int .i64 n, .int .i64 d, .int .i64 r, .int .i64 l, .int .i64 b, .int .i64 g, .int .i64 k]] #[], .func (.func 141) #[.agg #[.int .i64 3, .int .i64 n, .int .i64 d, .int .i64 r, .int .i64 l, .int .i64 b, .int .i64 g, .int .i64 k]] #[]]) (by simp [results, Tryz.results83, go_sem]) rfl ⟨rfl, ?_⟩
  exact bel_on (Nat.le_refl _) HB0.out (alP _ _)
def KP (w w' : World) (o : Obj) : Prop := w'.heap[w.heap.size]? = some o ∧ Below w.heap.size w w'
theorem KP.on {w w' w2 : World} {x0 x1 x2 x3 x4 x5 x6 x7 : Value} {T : TypeId} (h : KP w w' (.cells #[x0, x1, x2, x3, x4, x5, x6, x7] T)) (hb : Below w'.heap.size w' w2) : KP w w2 (.cells #[x0, x1, x2, x3, x4, x5, x6, x7] T) := ⟨row_on h.1 hb, bel_on (Nat.le_refl _) h.2 hb⟩
theorem kp_conj {w w' : World} {x0 x1 x2 x3 x4 x5 x6 x7 : Value} {T : TypeId} (h : KP w w' (.cells #[x0, x1, x2, x3, x4, x5, x6, x7] T)) :
    w'.cell? ⟨w.heap.size, 0, none⟩ = some x0 ∧ w'.cell? ⟨w.heap.size, 1, none⟩ = some x1 ∧ w'.cell? ⟨w.heap.size, 2, none⟩ = some x2 ∧ w'.cell? ⟨w.heap.size, 3, none⟩ = some x3 ∧ w'.cell? ⟨w.heap.size, 4, none⟩ = some x4 ∧ w'.cell? ⟨w.heap.size, 5, none⟩ = some x5 ∧ w'.cell? ⟨w.heap.size, 6, none⟩ = some x6 ∧ w'.cell? ⟨w.heap.size, 7, none⟩ = some x7 ∧ KP w w' (.cells #[x0, x1, x2, x3, x4, x5, x6, x7] T) := by
  obtain ⟨⟨a0, a1, a2, a3, a4, a5, a6, a7⟩, _⟩ := box8_cells h.1
  exact ⟨a0, a1, a2, a3, a4, a5, a6, a7, h⟩
end Go.Proofs.YtfhhnelffldggaaGreatDoor
