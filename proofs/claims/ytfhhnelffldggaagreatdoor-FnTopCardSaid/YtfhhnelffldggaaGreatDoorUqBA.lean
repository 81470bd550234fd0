/-
  Small functions of the program's pump.
-/
import Derived.Test.YtfhhnelffldggaaGreatDoorUqAG
import Derived.Laws.EntriesVeiled
set_option maxRecDepth 100000
set_option maxHeartbeats 16000000
namespace Go.Proofs.YtfhhnelffldggaaGreatDoor
open Go.RowKit Go.PlainAid
set_option linter.unusedVariables false
set_option linter.unusedSimpArgs false
theorem volI (s n d r l b g k : Int) (B : Bool) (hB : decide (s = 1 ∨ s = 3 ∧ k = 1) = B) (w : World) : Calls Tryz.prog 113 #[PV s n d r l b g k] w fun e w' => e = .returned (.bool B) ∧ Below w.heap.size w w' := by
  have HB0 : Hid (Below w.heap.size w (w.alloc (PB s n d r l b g k))) := alP _ _
  have HP0 : Hid ((w.alloc (PB s n d r l b g k)).heap[w.heap.size]? = some (PB s n d r l b g k)) := heap_new w _
  have p0 := box8_cells HP0.out
  by_cases h1 : s = 1
  · obtain rfl : B = true := by rw [← hB]; exact decide_eq_true (Or.inl h1)
    subst h1
    clear hB
    go_enter Tryz.func113, Tryz.ntmps113
    go_wp2
    go_ret
    exact ⟨rfl, HB0.out⟩
  have q1 : (s == 1) = false := by simpa using h1
  by_cases h3 : s = 3
  · by_cases hk : k = 1
    · obtain rfl : B = true := by rw [← hB]; exact decide_eq_true (Or.inr ⟨h3, hk⟩)
      subst h3
      subst hk
      clear hB
      go_enter Tryz.func113, Tryz.ntmps113
      go_wp2
      go_ret
      exact ⟨rfl, HB0.out⟩
    · obtain rfl : B = false := by rw [← hB]; exact decide_eq_false (by omega)
      have qk : (k == 1) = false := by simpa using hk
      subst h3
      clear hB
      go_enter Tryz.func113, Tryz.ntmps113
      go_wp2
      go_ret
      exact ⟨rfl, HB0.out⟩
  have q3 : (s == 3) = false := by simpa using h3
  obtain rfl : B = false := by rw [← hB]; exact decide_eq_false (by omega)
  clear hB
  go_enter Tryz.func113, Tryz.ntmps113
  go_wp2
  go_ret
  exact ⟨rfl, HB0.out⟩
theorem backI (s n d r l b g k : Int) (B : Bool) (hB : decide ((s = 3 ∧ 0 ≤ k ∧ k ≤ 2) ∨ (¬ s = 3 ∧ k = 0)) = B) (w : World) : Calls Tryz.prog 114 #[PV s n d r l b g k] w fun e w' => e = .returned (.bool B) ∧ Below w.heap.size w w' := by
  have HB0 : Hid (Below w.heap.size w (w.alloc (PB s n d r l b g k))) := alP _ _
  have HP0 : Hid ((w.alloc (PB s n d r l b g k)).heap[w.heap.size]? = some (PB s n d r l b g k)) := heap_new w _
  have p0 := box8_cells HP0.out
  by_cases h3 : s = 3
  · have HD : Hid (decide (0 ≤ k ∧ k ≤ 2) = B) := by
      show _ = _
      rw [← hB]
      by_cases h : 0 ≤ k ∧ k ≤ 2
      · rw [decide_eq_true h, decide_eq_true (Or.inl ⟨h3, h⟩)]
      · rw [decide_eq_false h, decide_eq_false (by omega)]
    subst h3
    clear hB
    go_enter Tryz.func114, Tryz.ntmps114
    go_wp2_with fail
    refine (holdsI 0 2 k B HD.out _).mono ?_
    rintro e w1 ⟨rfl, hb1⟩
    have HB1 := bq HB0 hb1
    clear hb1
    go_wp2
    go_ret
    exact ⟨rfl, HB1.out⟩
  have q3 : (s != 3) = true := by simpa using h3
  by_cases hk : k = 0
  · obtain rfl : B = true := by rw [← hB]; exact decide_eq_true (Or.inr ⟨h3, hk⟩)
    subst hk
    clear hB
    go_enter Tryz.func114, Tryz.ntmps114
    go_wp2
    go_ret
    exact ⟨rfl, HB0.out⟩
  · obtain rfl : B = false := by rw [← hB]; exact decide_eq_false (by omega)
    have qk : (k == 0) = false := by simpa using hk
    clear hB
    go_enter Tryz.func114, Tryz.ntmps114
    go_wp2
    go_ret
    exact ⟨rfl, HB0.out⟩
theorem intoI (l m n z : Int) (hz : min (max n l) m = z) (w : World) : Calls Tryz.prog 149 #[.agg #[.int .i64 l, .int .i64 m], .int .i64 n] w fun e w' => e = .returned (.int .i64 z) ∧ Below w.heap.size w w' := by
  by_cases h1 : l ≤ n
  · by_cases h2 : n ≤ m
    · obtain rfl : n = z := by omega
      clear hz
      go_enter Tryz.func149, Tryz.ntmps149
      go_wp2
      go_ret
      exact ⟨rfl, (Below.refl _ _).alloc (Nat.le_refl _) _⟩
    · obtain rfl : m = z := by omega
      clear hz
      go_enter Tryz.func149, Tryz.ntmps149
      go_wp2
      go_ret
      exact ⟨rfl, (Below.refl _ _).alloc (Nat.le_refl _) _⟩
  · by_cases h2 : l ≤ m
    · obtain rfl : l = z := by omega
      clear hz
      go_enter Tryz.func149, Tryz.ntmps149
      go_wp2
      go_ret
      exact ⟨rfl, (Below.refl _ _).alloc (Nat.le_refl _) _⟩
    · obtain rfl : m = z := by omega
      clear hz
      go_enter Tryz.func149, Tryz.ntmps149
      go_wp2
      go_ret
      exact ⟨rfl, (Below.refl _ _).alloc (Nat.le_refl _) _⟩
theorem bigI (w : World) : Calls Tryz.prog 148 #[] w fun e w' => e = .returned (.agg #[.int .i64 (-1000000000000), .int .i64 1000000000000]) ∧ Below w.heap.size w w' := by
  go_enter Tryz.func148, Tryz.ntmps148
  go_wp2
  refine bodyPost_ret (v := .agg #[.int .i64 (-1000000000000), .int .i64 1000000000000]) (by simp [results, Tryz.results148, go_sem]) rfl ⟨rfl, ?_⟩
  exact (Below.refl _ _).alloc (Nat.le_refl _) _
theorem bolI (s n d r l b g k z : Int) (hz : min b 3 = z) (w : World) : Calls Tryz.prog 173 #[PV s n d r l b g k] w fun e w' => e = .returned (.int .i64 z) ∧ Below w.heap.size w w' := by
  have HB0 : Hid (Below w.heap.size w (w.alloc (PB s n d r l b g k))) := alP _ _
  have HP0 : Hid ((w.alloc (PB s n d r l b g k)).heap[w.heap.size]? = some (PB s n d r l b g k)) := heap_new w _
  have p0 := box8_cells HP0.out
  by_cases h : b ≤ 3
  · obtain rfl : b = z := by omega
    have e1 : min b 3 = b := by omega
    clear hz
    go_enter Tryz.func173, Tryz.ntmps173
    go_wp2
    go_ret
    exact ⟨rfl, HB0.out⟩
  · obtain rfl : 3 = z := by omega
    have e1 : min b 3 = 3 := by omega
    clear hz
    go_enter Tryz.func173, Tryz.ntmps173
    go_wp2
    go_ret
    exact ⟨rfl, HB0.out⟩
theorem rtpI (s n d r l b g k r' y : Int) (KR : Hid (∀ w, Calls Tryz.prog 185 #[.agg #[.int .i64 n, .int .i64 d, .int .i64 r]] w fun e w' => e = .returned (.tuple #[.agg #[.int .i64 n, .int .i64 d, .int .i64 r'], .int .i64 y]) ∧ Below w.heap.size w w')) (w : World) : Calls Tryz.prog 172 #[PV s n d r l b g k] w fun e w' => e = .returned (.int .i64 y) ∧ Below w.heap.size w w' := by
  have HB0 : Hid (Below w.heap.size w (w.alloc (PB s n d r l b g k))) := alP _ _
  have HP0 : Hid ((w.alloc (PB s n d r l b g k)).heap[w.heap.size]? = some (PB s n d r l b g k)) := heap_new w _
  have p0 := box8_cells HP0.out
  go_enter Tryz.func172, Tryz.ntmps172
  go_wp2_with fail
  refine Calls.mono (KR.out _) ?_
  rintro e w1 ⟨rfl, hb1⟩
  have HB1 : Hid (Below w.heap.size w (w1.alloc (.cells #[.int .i64 n, .int .i64 d, .int .i64 r'] 27))) := bel_on (Nat.le_refl _) (bel_on (Nat.le_refl _) HB0.out hb1) (alP _ _)
  clear hb1
  go_wp2
  go_ret
  exact ⟨rfl, HB1.out⟩
theorem npI (s n d r l b g k : Int) (w : World) : Calls Tryz.prog 140 #[PV s n d r l b g k] w fun e w' => e = .returned (.int .i64 0) ∧ Below w.heap.size w w' := by
  have HB0 : Hid (Below w.heap.size w (w.alloc (PB s n d r l b g k))) := alP _ _
  have HP0 : Hid ((w.alloc (PB s n d r l b g k)).heap[w.heap.size]? = some (PB s n d r l b g k)) := heap_new w _
  have p0 := box8_cells HP0.out
  go_enter Tryz.func140, Tryz.ntmps140
  go_wp2
  go_ret
  exact ⟨rfl, HB0.out⟩
theorem nothI (s n d r l b g k a : Int) (w : World) : Calls Tryz.prog 141 #[PV s n d r l b g k, .int .i64 a] w fun e w' => e = .returned (PV s n d r l b g k) ∧ Below w.heap.size w w' := by
  have HB0 : Hid (Below w.heap.size w ((w.alloc (PB s n d r l b g k)).alloc (PB 0 0 0 0 0 0 0 0))) := bel_on (Nat.le_refl _) (alP _ _) (alP _ _)
  have HP0 : Hid (((w.alloc (PB s n d r l b g k)).alloc (PB 0 0 0 0 0 0 0 0)).heap[w.heap.size]? = some (PB s n d r l b g k)) := row_on (heap_new w _) (alP _ _)
  have HZ0 : Hid (((w.alloc (PB s n d r l b g k)).alloc (PB 0 0 0 0 0 0 0 0)).heap[w.heap.size + 1]? = some (PB 0 0 0 0 0 0 0 0)) := al_at (w.alloc (PB s n d r l b g k)) _ (by simp)
  have p0 := box8_cells HP0.out
  go_enter Tryz.func141, Tryz.ntmps141
  go_upto_region 1 with fail
  go_wp2_with (refine listStoreP rfl rfl _ _ _ rfl rfl (w.heap.size + 1) (s) (n) (d) (r) (l) (b) (g) (k) rfl rfl HZ0.out ?_)
  intro w99 hr9 ho9 hs9 hB9
  have HF := hq (hB9 _ _ (Nat.le_succ _) HB0.out)
  obtain ⟨⟨q0, q1, q2, q3, q4, q5, q6, q7⟩, _⟩ := box8_cells hr9
  clear ho9 hs9 hB9 hr9
  go_wp2
  refine bodyPost_ret (v := PV s n d r l b g k) (by simp only [results, Tryz.results141]; simp [go_sem, q0, q1, q2, q3, q4, q5, q6, q7]) rfl ⟨rfl, HF.out⟩
theorem stI_0 (n d r l b g k : Int) (w : World) : Calls Tryz.prog 83 #[PV 0 n d r l b g k] w fun e w' => e = .returned (.agg #[.func (.func 142) #[.agg #[.int .i64 0, .int .i64 n, .int .i64 d, .int .i64 r, .int .i64 l, .int .i64 b, .int .i64 g, .int .i64 k]] #[], .func (.func 140) #[.agg #[.int .i64 0, .int .i64 n, .int .i64 d, .int .i64 r, .int .i64 l, .int .i64 b, .int .i64 g, .int .i64 k]] #[], .func (.func 141) #[.agg #[.int .i64 0, .int .i64 n, .int .i64 d, .int .i64 r, .int .i64 l, .int .i64 b, .int .i64 g, .int .i64 k]] #[]]) ∧ Below w.heap.size w w' := by
  have HB0 : Hid (Below w.heap.size w (w.alloc (PB 0 n d r l b g k))) := alP _ _
  have HP0 : Hid ((w.alloc (PB 0 n d r l b g k)).heap[w.heap.size]? = some (PB 0 n d r l b g k)) := heap_new w _
  have p0 := box8_cells HP0.out
  go_enter Tryz.func83, Tryz.ntmps83
  go_wp2
  refine bodyPost_ret (v := .agg #[.func (.func 142) #[.agg #[.int .i64 0, .int .i64 n, .int .i64 d, .int .i64 r, .int .i64 l, .int .i64 b, .int .i64 g, .int .i64 k]] #[], .func (.func 140) #[.agg #[.int .i64 0, .int .i64 n, .int .i64 d, .int .i64 r, .int .i64 l, .int .i64 b, .int .i64 g, .int .i64 k]] #[], .func (.func 141) #[.agg #[.int .i64 0, .int .i64 n, .int .i64 d, .int .i64 r, .int .i64 l, .int .i64 b, .int .i64 g, .int .i64 k]] #[]]) (by simp [results, Tryz.results83, go_sem]) rfl ⟨rfl, ?_⟩
  exact bel_on (Nat.le_refl _) HB0.out (alP _ _)
theorem stI_1 (n d r l b g k : Int) (w : World) : Calls Tryz.prog 83 #[PV 1 n d r l b g k] w fun e w' => e = .returned (.agg #[.func (.func 133) #[.agg #[.int .i64 1, .int .i64 n, .int .i64 d, .int .i64 r, .int .i64 l, .int .i64 b, .int .i64 g, .int .i64 k]] #[], .func (.func 134) #[.agg #[.int .i64 1, .int .i64 n, .int .i64 d, .int .i64 r, .int .i64 l, .int .i64 b, .int .i64 g, .int .i64 k]] #[], .func (.func 135) #[.agg #[.int .i64 1, .int .i64 n, .int .i64 d, .int .i64 r, .int .i64 l, .int .i64 b, .int .i64 g, .int .i64 k]] #[]]) ∧ Below w.heap.size w w' := by
  have HB0 : Hid (Below w.heap.size w (w.alloc (PB 1 n d r l b g k))) := alP _ _
  have HP0 : Hid ((w.alloc (PB 1 n d r l b g k)).heap[w.heap.size]? = some (PB 1 n d r l b g k)) := heap_new w _
  have p0 := box8_cells HP0.out
  go_enter Tryz.func83, Tryz.ntmps83
  go_wp2
  refine bodyPost_ret (v := .agg #[.func (.func 133) #[.agg #[.int .i64 1, .int .i64 n, .int .i64 d, .int .i64 r, .int .i64 l, .int .i64 b, .int .i64 g, .int .i64 k]] #[], .func (.func 134) #[.agg #[.int .i64 1, .int .i64 n, .int .i64 d, .int .i64 r, .int .i64 l, .int .i64 b, .int .i64 g, .int .i64 k]] #[], .func (.func 135) #[.agg #[.int .i64 1, .int .i64 n, .int .i64 d, .int .i64 r, .int .i64 l, .int .i64 b, .int .i64 g, .int .i64 k]] #[]]) (by simp [results, Tryz.results83, go_sem]) rfl ⟨rfl, ?_⟩
  exact bel_on (Nat.le_refl _) HB0.out (alP _ _)
theorem stI_2 (n d r l b g k : Int) (w : World) : Calls Tryz.prog 83 #[PV 2 n d r l b g k] w fun e w' => e = .returned (.agg #[.func (.func 136) #[.agg #[.int .i64 2, .int .i64 n, .int .i64 d, .int .i64 r, .int .i64 l, .int .i64 b, .int .i64 g, .int .i64 k]] #[], .func (.func 137) #[.agg #[.int .i64 2, .int .i64 n, .int .i64 d, .int .i64 r, .int .i64 l, .int .i64 b, .int .i64 g, .int .i64 k]] #[], .func (.func 138) #[.agg #[.int .i64 2, .int .i64 n, .int .i64 d, .int .i64 r, .int .i64 l, .int .i64 b, .int .i64 g, .int .i64 k]] #[]]) ∧ Below w.heap.size w w' := by
  have HB0 : Hid (Below w.heap.size w (w.alloc (PB 2 n d r l b g k))) := alP _ _
  have HP0 : Hid ((w.alloc (PB 2 n d r l b g k)).heap[w.heap.size]? = some (PB 2 n d r l b g k)) := heap_new w _
  have p0 := box8_cells HP0.out
  go_enter Tryz.func83, Tryz.ntmps83
  go_wp2
  refine bodyPost_ret (v := .agg #[.func (.func 136) #[.agg #[.int .i64 2, .int .i64 n, .int .i64 d, .int .i64 r, .int .i64 l, .int .i64 b, .int .i64 g, .int .i64 k]] #[], .func (.func 137) #[.agg #[.int .i64 2, .int .i64 n, .int .i64 d, .int .i64 r, .int .i64 l, .int .i64 b, .int .i64 g, .int .i64 k]] #[], .func (.func 138) #[.agg #[.int .i64 2, .int .i64 n, .int .i64 d, .int .i64 r, .int .i64 l, .int .i64 b, .int .i64 g, .int .i64 k]] #[]]) (by simp [results, Tryz.results83, go_sem]) rfl ⟨rfl, ?_⟩
  exact bel_on (Nat.le_refl _) HB0.out (alP _ _)
theorem stI_3 (n d r l b g k : Int) (w : World) : Calls Tryz.prog 83 #[PV 3 n d r l b g k] w fun e w' => e = .returned (.agg #[.func (.func 139) #[.agg #[.int .i64 3, .int .i64 n, .int .i64 d, .int .i64 r, .int .i64 l, .int .i64 b, .int .i64 g, .int .i64 k]] #[], .func (.func 140) #[.agg #[.int .i64 3, .int .i64 n, .int .i64 d, .int .i64 r, .int .i64 l, .int .i64 b, .int .i64 g, .int .i64 k]] #[], .func (.func 141) #[.agg #[.int .i64 3, .int .i64 n, .int .i64 d, .int .i64 r, .int .i64 l, .int .i64 b, .int .i64 g, .int .i64 k]] #[]]) ∧ Below w.heap.size w w' := by
  have HB0 : Hid (Below w.heap.size w (w.alloc (PB 3 n d r l b g k))) := alP _ _
  have HP0 : Hid ((w.alloc (PB 3 n d r l b g k)).heap[w.heap.size]? = some (PB 3 n d r l b g k)) := heap_new w _
  have p0 := box8_cells HP0.out
  go_enter Tryz.func83, Tryz.ntmps83
  go_wp2
  refine bodyPost_ret (v := .agg #[.func (.func 139) #[.agg #[.int .i64 3, .int .i64 n, .int .i64 d, .int .i64 r, .int .i64 l, .int .i64 b, .int .i64 g, .int .i64 k]] #[], .func (.func 140) #[.agg #[.int .i64 3, .int .i64 n, .int .i64 d, .int .i64 r, .int .i64 l, .int .i64 b, .int .i64 g, .int .i64 k]] #[], .func (.func 141) #[.agg #[.int .i64 3, .int .i64 n, .int .i64 d, .int .i64 r, .int .i64 l, .int .i64 b, .int .i64 g, .int .i64 k]] #[]]) (by simp [results, Tryz.results83, go_sem]) rfl ⟨rfl, ?_⟩
  exact bel_on (Nat.le_refl _) HB0.out (alP _ _)
def KP (w w' : World) (o : Obj) : Prop := w'.heap[w.heap.size]? = some o ∧ Below w.heap.size w w'
theorem KP.on {w w' w2 : World} {x0 x1 x2 x3 x4 x5 x6 x7 : Value} {T : TypeId} (h : KP w w' (.cells #[x0, x1, x2, x3, x4, x5, x6, x7] T)) (hb : Below w'.heap.size w' w2) : KP w w2 (.cells #[x0, x1, x2, x3, x4, x5, x6, x7] T) := ⟨row_on h.1 hb, bel_on (Nat.le_refl _) h.2 hb⟩
theorem kp_conj {w w' : World} {x0 x1 x2 x3 x4 x5 x6 x7 : Value} {T : TypeId} (h : KP w w' (.cells #[x0, x1, x2, x3, x4, x5, x6, x7] T)) :
    w'.cell? ⟨w.heap.size, 0, none⟩ = some x0 ∧ w'.cell? ⟨w.heap.size, 1, none⟩ = some x1 ∧ w'.cell? ⟨w.heap.size, 2, none⟩ = some x2 ∧ w'.cell? ⟨w.heap.size, 3, none⟩ = some x3 ∧ w'.cell? ⟨w.heap.size, 4, none⟩ = some x4 ∧ w'.cell? ⟨w.heap.size, 5, none⟩ = some x5 ∧ w'.cell? ⟨w.heap.size, 6, none⟩ = some x6 ∧ w'.cell? ⟨w.heap.size, 7, none⟩ = some x7 ∧ KP w w' (.cells #[x0, x1, x2, x3, x4, x5, x6, x7] T) := by
  obtain ⟨⟨a0, a1, a2, a3, a4, a5, a6, a7⟩, _⟩ := box8_cells h.1
  exact ⟨a0, a1, a2, a3, a4, a5, a6, a7, h⟩
theorem pumpokI_0t (s n d r l b g k : Int) (D1 : Hid (decide (0 ≤ s ∧ s ≤ 3) = true)) (KR : Hid (∀ w, Calls Tryz.prog 112 #[.agg #[.int .i64 n, .int .i64 d, .int .i64 r]] w fun e w' => e = .returned (.bool true) ∧ Below w.heap.size w w')) (hw : IntKind.i64.wrap (d * 3) = d * 3) (h3 : decide (n ≤ d * 3) = true) (Dl : Hid (decide (0 ≤ l ∧ l ≤ 5000) = true)) (hl : decide (0 < l) = true) (Dv : Hid (decide (s = 1 ∨ s = 3 ∧ k = 1) = true)) (Db : Hid (decide (0 ≤ b ∧ b ≤ 100) = true)) (Dg : Hid (decide (0 ≤ g ∧ g ≤ 1000000000000) = true)) (Dk : Hid (decide ((s = 3 ∧ 0 ≤ k ∧ k ≤ 2) ∨ (¬ s = 3 ∧ k = 0)) = true)) (w : World) : Calls Tryz.prog 58 #[PV s n d r l b g k] w fun e w' => e = .returned (.bool true) ∧ Below w.heap.size w w' := by
  have HB0 : Hid (Below w.heap.size w (w.alloc (PB s n d r l b g k))) := alP _ _
  have HP0 : Hid ((w.alloc (PB s n d r l b g k)).heap[w.heap.size]? = some (PB s n d r l b g k)) := heap_new w _
  have p0 := box8_cells HP0.out
  have HK0 : Hid (KP w (w.alloc (PB s n d r l b g k)).drew (PB s n d r l b g k)) := ⟨HP0.out, HB0.out.drew⟩
  go_enter Tryz.func58, Tryz.ntmps58
  go_wp2_with fail
  clear p0 HB0 HP0
  refine wp_region_held_drew (S := fun w' => w'.cell? ⟨w.heap.size, 0, none⟩ = some (.int .i64 s) ∧ w'.cell? ⟨w.heap.size, 1, none⟩ = some (.int .i64 n) ∧ w'.cell? ⟨w.heap.size, 2, none⟩ = some (.int .i64 d) ∧ w'.cell? ⟨w.heap.size, 3, none⟩ = some (.int .i64 r) ∧ w'.cell? ⟨w.heap.size, 4, none⟩ = some (.int .i64 l) ∧ w'.cell? ⟨w.heap.size, 5, none⟩ = some (.int .i64 b) ∧ w'.cell? ⟨w.heap.size, 6, none⟩ = some (.int .i64 g) ∧ w'.cell? ⟨w.heap.size, 7, none⟩ = some (.int .i64 k) ∧ KP w w' (PB s n d r l b g k)) (by kernel_rfl) (kp_conj HK0.out) (fun hHeld => ?_)
  refine tkA (i := 0) (v := ?_) rfl (Or.inl ⟨by rfl, ?_⟩) ?_
  rotate_left
  · intro w_ hSw; (try dsimp only at hSw); go_simp <;> with_reducible rfl
  try simp only [Act.put, sA, sB, sC, sD, sE, sF]
  refine tkA (i := 1) (v := ?_) rfl (Or.inl ⟨by rfl, ?_⟩) ?_
  rotate_left
  · intro w_ hSw; (try dsimp only at hSw); go_simp <;> with_reducible rfl
  try simp only [Act.put, sA, sB, sC, sD, sE, sF]
  refine tkA (i := 2) (v := ?_) rfl (Or.inl ⟨by rfl, ?_⟩) ?_
  rotate_left
  · intro w_ hSw; (try dsimp only at hSw); go_simp <;> with_reducible rfl
  try simp only [Act.put, sA, sB, sC, sD, sE, sF]
  refine wpAnyH_ready (rs := [3]) (by kernel_rfl) (by simp) ?_
  refine AllReadyH.cons rfl (fun K hK => ?_) AllReadyH.nil
  go_simp
  go_at_call 111
  refine Calls.mono (holdsI 0 3 s true D1.out _) ?_
  rintro e v1 ⟨rfl, hbc⟩
  have HK1 := hq (HK0.out.on hbc)
  go_wp2_with fail
  refine hK.out _ _ ?_ (fun hHeld1 => ?_)
  · exact kp_conj HK1.out
  clear hK K hbc HK0
  try simp only [Act.put, sA, sB, sC, sD, sE, sF]
  refine tkA (i := 4) (v := ?_) rfl (Or.inl ⟨by rfl, ?_⟩) ?_
  rotate_left
  · intro w_ hSw; (try dsimp only at hSw); go_simp <;> with_reducible rfl
  try simp only [Act.put, sA, sB, sC, sD, sE, sF]
  refine tkA (i := 5) (v := ?_) rfl (Or.inl ⟨by rfl, ?_⟩) ?_
  rotate_left
  · intro w_ hSw; (try dsimp only at hSw); go_simp <;> with_reducible rfl
  try simp only [Act.put, sA, sB, sC, sD, sE, sF]
  refine tkA (i := 6) (v := ?_) rfl (Or.inl ⟨by rfl, ?_⟩) ?_
  rotate_left
  · intro w_ hSw; (try dsimp only at hSw); go_simp <;> with_reducible rfl
  try simp only [Act.put, sA, sB, sC, sD, sE, sF]
  refine wpAnyH_ready (rs := [7]) (by kernel_rfl) (by simp) ?_
  refine AllReadyH.cons rfl (fun K hK => ?_) AllReadyH.nil
  go_simp
  go_at_call 112
  refine Calls.mono (KR.out _) ?_
  rintro e v2 ⟨rfl, hbc⟩
  have HK2 := hq (HK1.out.on hbc)
  go_wp2_with fail
  refine hK.out _ _ ?_ (fun hHeld2 => ?_)
  · exact kp_conj HK2.out
  clear hK K hbc HK1
  try simp only [Act.put, sA, sB, sC, sD, sE, sF]
  refine tkA (i := 8) (v := ?_) rfl (Or.inl ⟨by rfl, ?_⟩) ?_
  rotate_left
  · intro w_ hSw; (try dsimp only at hSw); go_simp <;> with_reducible rfl
  try simp only [Act.put, sA, sB, sC, sD, sE, sF]
  refine tkA (i := 9) (v := ?_) rfl (Or.inl ⟨by rfl, ?_⟩) ?_
  rotate_left
  · intro w_ hSw; (try dsimp only at hSw); go_simp <;> with_reducible rfl
  try simp only [Act.put, sA, sB, sC, sD, sE, sF]
  refine tkA (i := 10) (v := ?_) rfl (Or.inl ⟨by rfl, ?_⟩) ?_
  rotate_left
  · intro w_ hSw; (try dsimp only at hSw); go_simp <;> with_reducible rfl
  try simp only [Act.put, sA, sB, sC, sD, sE, sF]
  refine tkA (i := 11) (v := ?_) rfl (Or.inl ⟨by rfl, ?_⟩) ?_
  rotate_left
  · intro w_ hSw; (try dsimp only at hSw); go_simp <;> with_reducible rfl
  try simp only [Act.put, sA, sB, sC, sD, sE, sF]
  refine tkA (i := 12) (v := ?_) rfl (Or.inl ⟨by rfl, ?_⟩) ?_
  rotate_left
  · intro w_ hSw; (try dsimp only at hSw); go_simp <;> with_reducible rfl
  try simp only [Act.put, sA, sB, sC, sD, sE, sF]
  refine tkA (i := 13) (v := ?_) rfl (Or.inl ⟨by rfl, ?_⟩) ?_
  rotate_left
  · intro w_ hSw; (try dsimp only at hSw); go_simp <;> with_reducible rfl
  try simp only [Act.put, sA, sB, sC, sD, sE, sF]
  refine tkA (i := 14) (v := ?_) rfl (Or.inl ⟨by rfl, ?_⟩) ?_
  rotate_left
  · intro w_ hSw; (try dsimp only at hSw); go_simp <;> with_reducible rfl
  try simp only [Act.put, sA, sB, sC, sD, sE, sF]
  refine tkA (i := 15) (v := ?_) rfl (Or.inl ⟨by rfl, ?_⟩) ?_
  rotate_left
  · intro w_ hSw; (try dsimp only at hSw); go_simp <;> with_reducible rfl
  try simp only [Act.put, sA, sB, sC, sD, sE, sF]
  refine tkA (i := 16) (v := ?_) rfl (Or.inl ⟨by rfl, ?_⟩) ?_
  rotate_left
  · intro w_ hSw; (try dsimp only at hSw); go_simp <;> with_reducible rfl
  try simp only [Act.put, sA, sB, sC, sD, sE, sF]
  refine tkA (i := 17) (v := ?_) rfl (Or.inl ⟨by rfl, ?_⟩) ?_
  rotate_left
  · intro w_ hSw; (try dsimp only at hSw); go_simp <;> with_reducible rfl
  try simp only [Act.put, sA, sB, sC, sD, sE, sF]
  refine tkA (i := 18) (v := ?_) rfl (Or.inl ⟨by rfl, ?_⟩) ?_
  rotate_left
  · intro w_ hSw; (try dsimp only at hSw); go_simp <;> with_reducible rfl
  try simp only [Act.put, sA, sB, sC, sD, sE, sF]
  refine tkA (i := 19) (v := ?_) rfl (Or.inl ⟨by rfl, ?_⟩) ?_
  rotate_left
  · intro w_ hSw; (try dsimp only at hSw); go_simp <;> with_reducible rfl
  try simp only [Act.put, sA, sB, sC, sD, sE, sF]
  refine tkA (i := 20) (v := ?_) rfl (Or.inl ⟨by rfl, ?_⟩) ?_
  rotate_left
  · intro w_ hSw; (try dsimp only at hSw); go_simp <;> with_reducible rfl
  try simp only [Act.put, sA, sB, sC, sD, sE, sF]
  refine tkA (i := 21) (v := ?_) rfl (Or.inl ⟨by rfl, ?_⟩) ?_
  rotate_left
  · intro w_ hSw; (try dsimp only at hSw); go_simp <;> with_reducible rfl
  try simp only [Act.put, sA, sB, sC, sD, sE, sF]
  refine tkA (i := 22) (v := ?_) rfl (Or.inl ⟨by rfl, ?_⟩) ?_
  rotate_left
  · intro w_ hSw; (try dsimp only at hSw); go_simp <;> with_reducible rfl
  try simp only [Act.put, sA, sB, sC, sD, sE, sF]
  refine wpAnyH_ready (rs := [23]) (by kernel_rfl) (by simp) ?_
  refine AllReadyH.cons rfl (fun K hK => ?_) AllReadyH.nil
  go_simp
  go_at_call 111
  refine Calls.mono (holdsI 0 5000 l true Dl.out _) ?_
  rintro e v3 ⟨rfl, hbc⟩
  have HK3 := hq (HK2.out.on hbc)
  go_wp2_with fail
  refine hK.out _ _ ?_ (fun hHeld3 => ?_)
  · exact kp_conj HK3.out
  clear hK K hbc HK2
  try simp only [Act.put, sA, sB, sC, sD, sE, sF]
  refine tkA (i := 24) (v := ?_) rfl (Or.inl ⟨by rfl, ?_⟩) ?_
  rotate_left
  · intro w_ hSw; (try dsimp only at hSw); go_simp <;> with_reducible rfl
  try simp only [Act.put, sA, sB, sC, sD, sE, sF]
  refine tkA (i := 25) (v := ?_) rfl (Or.inl ⟨by rfl, ?_⟩) ?_
  rotate_left
  · intro w_ hSw; (try dsimp only at hSw); go_simp <;> with_reducible rfl
  try simp only [Act.put, sA, sB, sC, sD, sE, sF]
  refine tkA (i := 26) (v := ?_) rfl (Or.inl ⟨by rfl, ?_⟩) ?_
  rotate_left
  · intro w_ hSw; (try dsimp only at hSw); go_simp <;> with_reducible rfl
  try simp only [Act.put, sA, sB, sC, sD, sE, sF]
  refine tkA (i := 27) (v := ?_) rfl (Or.inl ⟨by rfl, ?_⟩) ?_
  rotate_left
  · intro w_ hSw; (try dsimp only at hSw); go_simp <;> with_reducible rfl
  try simp only [Act.put, sA, sB, sC, sD, sE, sF]
  refine tkA (i := 28) (v := ?_) rfl (Or.inl ⟨by rfl, ?_⟩) ?_
  rotate_left
  · intro w_ hSw; (try dsimp only at hSw); go_simp <;> with_reducible rfl
  try simp only [Act.put, sA, sB, sC, sD, sE, sF]
  refine tkA (i := 29) (v := ?_) rfl (Or.inl ⟨by rfl, ?_⟩) ?_
  rotate_left
  · intro w_ hSw; (try dsimp only at hSw); go_simp <;> with_reducible rfl
  try simp only [Act.put, sA, sB, sC, sD, sE, sF]
  refine wpAnyH_ready (rs := [30]) (by kernel_rfl) (by simp) ?_
  refine AllReadyH.cons rfl (fun K hK => ?_) AllReadyH.nil
  go_simp
  go_at_call 113
  refine Calls.mono (volI s n d r l b g k true Dv.out _) ?_
  rintro e v4 ⟨rfl, hbc⟩
  have HK4 := hq (HK3.out.on hbc)
  go_wp2_with fail
  refine hK.out _ _ ?_ (fun hHeld4 => ?_)
  · exact kp_conj HK4.out
  clear hK K hbc HK3
  try simp only [Act.put, sA, sB, sC, sD, sE, sF]
  refine tkA (i := 31) (v := ?_) rfl (Or.inl ⟨by rfl, ?_⟩) ?_
  rotate_left
  · intro w_ hSw; (try dsimp only at hSw); go_simp <;> with_reducible rfl
  try simp only [Act.put, sA, sB, sC, sD, sE, sF]
  refine tkA (i := 32) (v := ?_) rfl (Or.inl ⟨by rfl, ?_⟩) ?_
  rotate_left
  · intro w_ hSw; (try dsimp only at hSw); go_simp <;> with_reducible rfl
  try simp only [Act.put, sA, sB, sC, sD, sE, sF]
  refine tkA (i := 33) (v := ?_) rfl (Or.inl ⟨by rfl, ?_⟩) ?_
  rotate_left
  · intro w_ hSw; (try dsimp only at hSw); go_simp <;> with_reducible rfl
  try simp only [Act.put, sA, sB, sC, sD, sE, sF]
  refine tkA (i := 34) (v := ?_) rfl (Or.inl ⟨by rfl, ?_⟩) ?_
  rotate_left
  · intro w_ hSw; (try dsimp only at hSw); go_simp <;> with_reducible rfl
  try simp only [Act.put, sA, sB, sC, sD, sE, sF]
  refine tkA (i := 35) (v := ?_) rfl (Or.inl ⟨by rfl, ?_⟩) ?_
  rotate_left
  · intro w_ hSw; (try dsimp only at hSw); go_simp <;> with_reducible rfl
  try simp only [Act.put, sA, sB, sC, sD, sE, sF]
  refine tkA (i := 36) (v := ?_) rfl (Or.inl ⟨by rfl, ?_⟩) ?_
  rotate_left
  · intro w_ hSw; (try dsimp only at hSw); go_simp <;> with_reducible rfl
  try simp only [Act.put, sA, sB, sC, sD, sE, sF]
  refine wpAnyH_ready (rs := [37]) (by kernel_rfl) (by simp) ?_
  refine AllReadyH.cons rfl (fun K hK => ?_) AllReadyH.nil
  go_simp
  go_at_call 111
  refine Calls.mono (holdsI 0 100 b true Db.out _) ?_
  rintro e v5 ⟨rfl, hbc⟩
  have HK5 := hq (HK4.out.on hbc)
  go_wp2_with fail
  refine hK.out _ _ ?_ (fun hHeld5 => ?_)
  · exact kp_conj HK5.out
  clear hK K hbc HK4
  try simp only [Act.put, sA, sB, sC, sD, sE, sF]
  refine tkA (i := 38) (v := ?_) rfl (Or.inl ⟨by rfl, ?_⟩) ?_
  rotate_left
  · intro w_ hSw; (try dsimp only at hSw); go_simp <;> with_reducible rfl
  try simp only [Act.put, sA, sB, sC, sD, sE, sF]
  refine tkA (i := 39) (v := ?_) rfl (Or.inl ⟨by rfl, ?_⟩) ?_
  rotate_left
  · intro w_ hSw; (try dsimp only at hSw); go_simp <;> with_reducible rfl
  try simp only [Act.put, sA, sB, sC, sD, sE, sF]
  refine tkA (i := 40) (v := ?_) rfl (Or.inl ⟨by rfl, ?_⟩) ?_
  rotate_left
  · intro w_ hSw; (try dsimp only at hSw); go_simp <;> with_reducible rfl
  try simp only [Act.put, sA, sB, sC, sD, sE, sF]
  refine tkA (i := 41) (v := ?_) rfl (Or.inl ⟨by rfl, ?_⟩) ?_
  rotate_left
  · intro w_ hSw; (try dsimp only at hSw); go_simp <;> with_reducible rfl
  try simp only [Act.put, sA, sB, sC, sD, sE, sF]
  refine tkA (i := 42) (v := ?_) rfl (Or.inl ⟨by rfl, ?_⟩) ?_
  rotate_left
  · intro w_ hSw; (try dsimp only at hSw); go_simp <;> with_reducible rfl
  try simp only [Act.put, sA, sB, sC, sD, sE, sF]
  refine wpAnyH_ready (rs := [43]) (by kernel_rfl) (by simp) ?_
  refine AllReadyH.cons rfl (fun K hK => ?_) AllReadyH.nil
  go_simp
  go_at_call 111
  refine Calls.mono (holdsI 0 1000000000000 g true Dg.out _) ?_
  rintro e v6 ⟨rfl, hbc⟩
  have HK6 := hq (HK5.out.on hbc)
  go_wp2_with fail
  refine hK.out _ _ ?_ (fun hHeld6 => ?_)
  · exact kp_conj HK6.out
  clear hK K hbc HK5
  try simp only [Act.put, sA, sB, sC, sD, sE, sF]
  refine tkA (i := 44) (v := ?_) rfl (Or.inl ⟨by rfl, ?_⟩) ?_
  rotate_left
  · intro w_ hSw; (try dsimp only at hSw); go_simp <;> with_reducible rfl
  try simp only [Act.put, sA, sB, sC, sD, sE, sF]
  refine tkA (i := 45) (v := ?_) rfl (Or.inl ⟨by rfl, ?_⟩) ?_
  rotate_left
  · intro w_ hSw; (try dsimp only at hSw); go_simp <;> with_reducible rfl
  try simp only [Act.put, sA, sB, sC, sD, sE, sF]
  refine tkA (i := 46) (v := ?_) rfl (Or.inl ⟨by rfl, ?_⟩) ?_
  rotate_left
  · intro w_ hSw; (try dsimp only at hSw); go_simp <;> with_reducible rfl
  try simp only [Act.put, sA, sB, sC, sD, sE, sF]
  refine wpAnyH_ready (rs := [47]) (by kernel_rfl) (by simp) ?_
  refine AllReadyH.cons rfl (fun K hK => ?_) AllReadyH.nil
  go_simp
  go_at_call 114
  refine Calls.mono (backI s n d r l b g k true Dk.out _) ?_
  rintro e v7 ⟨rfl, hbc⟩
  have HK7 := hq (HK6.out.on hbc)
  go_wp2_with fail
  refine hK.out _ _ ?_ (fun hHeld7 => ?_)
  · exact kp_conj HK7.out
  clear hK K hbc HK6
  try simp only [Act.put, sA, sB, sC, sD, sE, sF]
  refine tkA (i := 48) (v := ?_) rfl (Or.inl ⟨by rfl, ?_⟩) ?_
  rotate_left
  · intro w_ hSw; (try dsimp only at hSw); go_simp <;> with_reducible rfl
  try simp only [Act.put, sA, sB, sC, sD, sE, sF]
  refine tkA (i := 49) (v := ?_) rfl (Or.inl ⟨by rfl, ?_⟩) ?_
  rotate_left
  · intro w_ hSw; (try dsimp only at hSw); go_simp <;> with_reducible rfl
  try simp only [Act.put, sA, sB, sC, sD, sE, sF]
  refine wpAnyH_done (by kernel_rfl) ?_ _
  go_wp2
  go_ret
  exact ⟨rfl, HK7.out.2⟩
theorem pumpokI_0f (s n d r l b g k : Int) (D1 : Hid (decide (0 ≤ s ∧ s ≤ 3) = true)) (KR : Hid (∀ w, Calls Tryz.prog 112 #[.agg #[.int .i64 n, .int .i64 d, .int .i64 r]] w fun e w' => e = .returned (.bool true) ∧ Below w.heap.size w w')) (hw : IntKind.i64.wrap (d * 3) = d * 3) (h3 : decide (n ≤ d * 3) = true) (Dl : Hid (decide (0 ≤ l ∧ l ≤ 5000) = true)) (hl : decide (0 < l) = false) (Dv : Hid (decide (s = 1 ∨ s = 3 ∧ k = 1) = false)) (Db : Hid (decide (0 ≤ b ∧ b ≤ 100) = true)) (Dg : Hid (decide (0 ≤ g ∧ g ≤ 1000000000000) = true)) (Dk : Hid (decide ((s = 3 ∧ 0 ≤ k ∧ k ≤ 2) ∨ (¬ s = 3 ∧ k = 0)) = true)) (w : World) : Calls Tryz.prog 58 #[PV s n d r l b g k] w fun e w' => e = .returned (.bool true) ∧ Below w.heap.size w w' := by
  have HB0 : Hid (Below w.heap.size w (w.alloc (PB s n d r l b g k))) := alP _ _
  have HP0 : Hid ((w.alloc (PB s n d r l b g k)).heap[w.heap.size]? = some (PB s n d r l b g k)) := heap_new w _
  have p0 := box8_cells HP0.out
  have HK0 : Hid (KP w (w.alloc (PB s n d r l b g k)).drew (PB s n d r l b g k)) := ⟨HP0.out, HB0.out.drew⟩
  go_enter Tryz.func58, Tryz.ntmps58
  go_wp2_with fail
  clear p0 HB0 HP0
  refine wp_region_held_drew (S := fun w' => w'.cell? ⟨w.heap.size, 0, none⟩ = some (.int .i64 s) ∧ w'.cell? ⟨w.heap.size, 1, none⟩ = some (.int .i64 n) ∧ w'.cell? ⟨w.heap.size, 2, none⟩ = some (.int .i64 d) ∧ w'.cell? ⟨w.heap.size, 3, none⟩ = some (.int .i64 r) ∧ w'.cell? ⟨w.heap.size, 4, none⟩ = some (.int .i64 l) ∧ w'.cell? ⟨w.heap.size, 5, none⟩ = some (.int .i64 b) ∧ w'.cell? ⟨w.heap.size, 6, none⟩ = some (.int .i64 g) ∧ w'.cell? ⟨w.heap.size, 7, none⟩ = some (.int .i64 k) ∧ KP w w' (PB s n d r l b g k)) (by kernel_rfl) (kp_conj HK0.out) (fun hHeld => ?_)
  refine tkA (i := 0) (v := ?_) rfl (Or.inl ⟨by rfl, ?_⟩) ?_
  rotate_left
  · intro w_ hSw; (try dsimp only at hSw); go_simp <;> with_reducible rfl
  try simp only [Act.put, sA, sB, sC, sD, sE, sF]
  refine tkA (i := 1) (v := ?_) rfl (Or.inl ⟨by rfl, ?_⟩) ?_
  rotate_left
  · intro w_ hSw; (try dsimp only at hSw); go_simp <;> with_reducible rfl
  try simp only [Act.put, sA, sB, sC, sD, sE, sF]
  refine tkA (i := 2) (v := ?_) rfl (Or.inl ⟨by rfl, ?_⟩) ?_
  rotate_left
  · intro w_ hSw; (try dsimp only at hSw); go_simp <;> with_reducible rfl
  try simp only [Act.put, sA, sB, sC, sD, sE, sF]
  refine wpAnyH_ready (rs := [3]) (by kernel_rfl) (by simp) ?_
  refine AllReadyH.cons rfl (fun K hK => ?_) AllReadyH.nil
  go_simp
  go_at_call 111
  refine Calls.mono (holdsI 0 3 s true D1.out _) ?_
  rintro e v1 ⟨rfl, hbc⟩
  have HK1 := hq (HK0.out.on hbc)
  go_wp2_with fail
  refine hK.out _ _ ?_ (fun hHeld1 => ?_)
  · exact kp_conj HK1.out
  clear hK K hbc HK0
  try simp only [Act.put, sA, sB, sC, sD, sE, sF]
  refine tkA (i := 4) (v := ?_) rfl (Or.inl ⟨by rfl, ?_⟩) ?_
  rotate_left
  · intro w_ hSw; (try dsimp only at hSw); go_simp <;> with_reducible rfl
  try simp only [Act.put, sA, sB, sC, sD, sE, sF]
  refine tkA (i := 5) (v := ?_) rfl (Or.inl ⟨by rfl, ?_⟩) ?_
  rotate_left
  · intro w_ hSw; (try dsimp only at hSw); go_simp <;> with_reducible rfl
  try simp only [Act.put, sA, sB, sC, sD, sE, sF]
  refine tkA (i := 6) (v := ?_) rfl (Or.inl ⟨by rfl, ?_⟩) ?_
  rotate_left
  · intro w_ hSw; (try dsimp only at hSw); go_simp <;> with_reducible rfl
  try simp only [Act.put, sA, sB, sC, sD, sE, sF]
  refine wpAnyH_ready (rs := [7]) (by kernel_rfl) (by simp) ?_
  refine AllReadyH.cons rfl (fun K hK => ?_) AllReadyH.nil
  go_simp
  go_at_call 112
  refine Calls.mono (KR.out _) ?_
  rintro e v2 ⟨rfl, hbc⟩
  have HK2 := hq (HK1.out.on hbc)
  go_wp2_with fail
  refine hK.out _ _ ?_ (fun hHeld2 => ?_)
  · exact kp_conj HK2.out
  clear hK K hbc HK1
  try simp only [Act.put, sA, sB, sC, sD, sE, sF]
  refine tkA (i := 8) (v := ?_) rfl (Or.inl ⟨by rfl, ?_⟩) ?_
  rotate_left
  · intro w_ hSw; (try dsimp only at hSw); go_simp <;> with_reducible rfl
  try simp only [Act.put, sA, sB, sC, sD, sE, sF]
  refine tkA (i := 9) (v := ?_) rfl (Or.inl ⟨by rfl, ?_⟩) ?_
  rotate_left
  · intro w_ hSw; (try dsimp only at hSw); go_simp <;> with_reducible rfl
  try simp only [Act.put, sA, sB, sC, sD, sE, sF]
  refine tkA (i := 10) (v := ?_) rfl (Or.inl ⟨by rfl, ?_⟩) ?_
  rotate_left
  · intro w_ hSw; (try dsimp only at hSw); go_simp <;> with_reducible rfl
  try simp only [Act.put, sA, sB, sC, sD, sE, sF]
  refine tkA (i := 11) (v := ?_) rfl (Or.inl ⟨by rfl, ?_⟩) ?_
  rotate_left
  · intro w_ hSw; (try dsimp only at hSw); go_simp <;> with_reducible rfl
  try simp only [Act.put, sA, sB, sC, sD, sE, sF]
  refine tkA (i := 12) (v := ?_) rfl (Or.inl ⟨by rfl, ?_⟩) ?_
  rotate_left
  · intro w_ hSw; (try dsimp only at hSw); go_simp <;> with_reducible rfl
  try simp only [Act.put, sA, sB, sC, sD, sE, sF]
  refine tkA (i := 13) (v := ?_) rfl (Or.inl ⟨by rfl, ?_⟩) ?_
  rotate_left
  · intro w_ hSw; (try dsimp only at hSw); go_simp <;> with_reducible rfl
  try simp only [Act.put, sA, sB, sC, sD, sE, sF]
  refine tkA (i := 14) (v := ?_) rfl (Or.inl ⟨by rfl, ?_⟩) ?_
  rotate_left
  · intro w_ hSw; (try dsimp only at hSw); go_simp <;> with_reducible rfl
  try simp only [Act.put, sA, sB, sC, sD, sE, sF]
  refine tkA (i := 15) (v := ?_) rfl (Or.inl ⟨by rfl, ?_⟩) ?_
  rotate_left
  · intro w_ hSw; (try dsimp only at hSw); go_simp <;> with_reducible rfl
  try simp only [Act.put, sA, sB, sC, sD, sE, sF]
  refine tkA (i := 16) (v := ?_) rfl (Or.inl ⟨by rfl, ?_⟩) ?_
  rotate_left
  · intro w_ hSw; (try dsimp only at hSw); go_simp <;> with_reducible rfl
  try simp only [Act.put, sA, sB, sC, sD, sE, sF]
  refine tkA (i := 17) (v := ?_) rfl (Or.inl ⟨by rfl, ?_⟩) ?_
  rotate_left
  · intro w_ hSw; (try dsimp only at hSw); go_simp <;> with_reducible rfl
  try simp only [Act.put, sA, sB, sC, sD, sE, sF]
  refine tkA (i := 18) (v := ?_) rfl (Or.inl ⟨by rfl, ?_⟩) ?_
  rotate_left
  · intro w_ hSw; (try dsimp only at hSw); go_simp <;> with_reducible rfl
  try simp only [Act.put, sA, sB, sC, sD, sE, sF]
  refine tkA (i := 19) (v := ?_) rfl (Or.inl ⟨by rfl, ?_⟩) ?_
  rotate_left
  · intro w_ hSw; (try dsimp only at hSw); go_simp <;> with_reducible rfl
  try simp only [Act.put, sA, sB, sC, sD, sE, sF]
  refine tkA (i := 20) (v := ?_) rfl (Or.inl ⟨by rfl, ?_⟩) ?_
  rotate_left
  · intro w_ hSw; (try dsimp only at hSw); go_simp <;> with_reducible rfl
  try simp only [Act.put, sA, sB, sC, sD, sE, sF]
  refine tkA (i := 21) (v := ?_) rfl (Or.inl ⟨by rfl, ?_⟩) ?_
  rotate_left
  · intro w_ hSw; (try dsimp only at hSw); go_simp <;> with_reducible rfl
  try simp only [Act.put, sA, sB, sC, sD, sE, sF]
  refine tkA (i := 22) (v := ?_) rfl (Or.inl ⟨by rfl, ?_⟩) ?_
  rotate_left
  · intro w_ hSw; (try dsimp only at hSw); go_simp <;> with_reducible rfl
  try simp only [Act.put, sA, sB, sC, sD, sE, sF]
  refine wpAnyH_ready (rs := [23]) (by kernel_rfl) (by simp) ?_
  refine AllReadyH.cons rfl (fun K hK => ?_) AllReadyH.nil
  go_simp
  go_at_call 111
  refine Calls.mono (holdsI 0 5000 l true Dl.out _) ?_
  rintro e v3 ⟨rfl, hbc⟩
  have HK3 := hq (HK2.out.on hbc)
  go_wp2_with fail
  refine hK.out _ _ ?_ (fun hHeld3 => ?_)
  · exact kp_conj HK3.out
  clear hK K hbc HK2
  try simp only [Act.put, sA, sB, sC, sD, sE, sF]
  refine tkA (i := 24) (v := ?_) rfl (Or.inl ⟨by rfl, ?_⟩) ?_
  rotate_left
  · intro w_ hSw; (try dsimp only at hSw); go_simp <;> with_reducible rfl
  try simp only [Act.put, sA, sB, sC, sD, sE, sF]
  refine tkA (i := 25) (v := ?_) rfl (Or.inl ⟨by rfl, ?_⟩) ?_
  rotate_left
  · intro w_ hSw; (try dsimp only at hSw); go_simp <;> with_reducible rfl
  try simp only [Act.put, sA, sB, sC, sD, sE, sF]
  refine tkA (i := 26) (v := ?_) rfl (Or.inl ⟨by rfl, ?_⟩) ?_
  rotate_left
  · intro w_ hSw; (try dsimp only at hSw); go_simp <;> with_reducible rfl
  try simp only [Act.put, sA, sB, sC, sD, sE, sF]
  refine tkA (i := 27) (v := ?_) rfl (Or.inl ⟨by rfl, ?_⟩) ?_
  rotate_left
  · intro w_ hSw; (try dsimp only at hSw); go_simp <;> with_reducible rfl
  try simp only [Act.put, sA, sB, sC, sD, sE, sF]
  refine tkA (i := 28) (v := ?_) rfl (Or.inl ⟨by rfl, ?_⟩) ?_
  rotate_left
  · intro w_ hSw; (try dsimp only at hSw); go_simp <;> with_reducible rfl
  try simp only [Act.put, sA, sB, sC, sD, sE, sF]
  refine tkA (i := 29) (v := ?_) rfl (Or.inl ⟨by rfl, ?_⟩) ?_
  rotate_left
  · intro w_ hSw; (try dsimp only at hSw); go_simp <;> with_reducible rfl
  try simp only [Act.put, sA, sB, sC, sD, sE, sF]
  refine wpAnyH_ready (rs := [30]) (by kernel_rfl) (by simp) ?_
  refine AllReadyH.cons rfl (fun K hK => ?_) AllReadyH.nil
  go_simp
  go_at_call 113
  refine Calls.mono (volI s n d r l b g k false Dv.out _) ?_
  rintro e v4 ⟨rfl, hbc⟩
  have HK4 := hq (HK3.out.on hbc)
  go_wp2_with fail
  refine hK.out _ _ ?_ (fun hHeld4 => ?_)
  · exact kp_conj HK4.out
  clear hK K hbc HK3
  try simp only [Act.put, sA, sB, sC, sD, sE, sF]
  refine tkA (i := 31) (v := ?_) rfl (Or.inl ⟨by rfl, ?_⟩) ?_
  rotate_left
  · intro w_ hSw; (try dsimp only at hSw); go_simp <;> with_reducible rfl
  try simp only [Act.put, sA, sB, sC, sD, sE, sF]
  refine tkA (i := 32) (v := ?_) rfl (Or.inl ⟨by rfl, ?_⟩) ?_
  rotate_left
  · intro w_ hSw; (try dsimp only at hSw); go_simp <;> with_reducible rfl
  try simp only [Act.put, sA, sB, sC, sD, sE, sF]
  refine tkA (i := 33) (v := ?_) rfl (Or.inl ⟨by rfl, ?_⟩) ?_
  rotate_left
  · intro w_ hSw; (try dsimp only at hSw); go_simp <;> with_reducible rfl
  try simp only [Act.put, sA, sB, sC, sD, sE, sF]
  refine tkA (i := 34) (v := ?_) rfl (Or.inl ⟨by rfl, ?_⟩) ?_
  rotate_left
  · intro w_ hSw; (try dsimp only at hSw); go_simp <;> with_reducible rfl
  try simp only [Act.put, sA, sB, sC, sD, sE, sF]
  refine tkA (i := 35) (v := ?_) rfl (Or.inl ⟨by rfl, ?_⟩) ?_
  rotate_left
  · intro w_ hSw; (try dsimp only at hSw); go_simp <;> with_reducible rfl
  try simp only [Act.put, sA, sB, sC, sD, sE, sF]
  refine tkA (i := 36) (v := ?_) rfl (Or.inl ⟨by rfl, ?_⟩) ?_
  rotate_left
  · intro w_ hSw; (try dsimp only at hSw); go_simp <;> with_reducible rfl
  try simp only [Act.put, sA, sB, sC, sD, sE, sF]
  refine wpAnyH_ready (rs := [37]) (by kernel_rfl) (by simp) ?_
  refine AllReadyH.cons rfl (fun K hK => ?_) AllReadyH.nil
  go_simp
  go_at_call 111
  refine Calls.mono (holdsI 0 100 b true Db.out _) ?_
  rintro e v5 ⟨rfl, hbc⟩
  have HK5 := hq (HK4.out.on hbc)
  go_wp2_with fail
  refine hK.out _ _ ?_ (fun hHeld5 => ?_)
  · exact kp_conj HK5.out
  clear hK K hbc HK4
  try simp only [Act.put, sA, sB, sC, sD, sE, sF]
  refine tkA (i := 38) (v := ?_) rfl (Or.inl ⟨by rfl, ?_⟩) ?_
  rotate_left
  · intro w_ hSw; (try dsimp only at hSw); go_simp <;> with_reducible rfl
  try simp only [Act.put, sA, sB, sC, sD, sE, sF]
  refine tkA (i := 39) (v := ?_) rfl (Or.inl ⟨by rfl, ?_⟩) ?_
  rotate_left
  · intro w_ hSw; (try dsimp only at hSw); go_simp <;> with_reducible rfl
  try simp only [Act.put, sA, sB, sC, sD, sE, sF]
  refine tkA (i := 40) (v := ?_) rfl (Or.inl ⟨by rfl, ?_⟩) ?_
  rotate_left
  · intro w_ hSw; (try dsimp only at hSw); go_simp <;> with_reducible rfl
  try simp only [Act.put, sA, sB, sC, sD, sE, sF]
  refine tkA (i := 41) (v := ?_) rfl (Or.inl ⟨by rfl, ?_⟩) ?_
  rotate_left
  · intro w_ hSw; (try dsimp only at hSw); go_simp <;> with_reducible rfl
  try simp only [Act.put, sA, sB, sC, sD, sE, sF]
  refine tkA (i := 42) (v := ?_) rfl (Or.inl ⟨by rfl, ?_⟩) ?_
  rotate_left
  · intro w_ hSw; (try dsimp only at hSw); go_simp <;> with_reducible rfl
  try simp only [Act.put, sA, sB, sC, sD, sE, sF]
  refine wpAnyH_ready (rs := [43]) (by kernel_rfl) (by simp) ?_
  refine AllReadyH.cons rfl (fun K hK => ?_) AllReadyH.nil
  go_simp
  go_at_call 111
  refine Calls.mono (holdsI 0 1000000000000 g true Dg.out _) ?_
  rintro e v6 ⟨rfl, hbc⟩
  have HK6 := hq (HK5.out.on hbc)
  go_wp2_with fail
  refine hK.out _ _ ?_ (fun hHeld6 => ?_)
  · exact kp_conj HK6.out
  clear hK K hbc HK5
  try simp only [Act.put, sA, sB, sC, sD, sE, sF]
  refine tkA (i := 44) (v := ?_) rfl (Or.inl ⟨by rfl, ?_⟩) ?_
  rotate_left
  · intro w_ hSw; (try dsimp only at hSw); go_simp <;> with_reducible rfl
  try simp only [Act.put, sA, sB, sC, sD, sE, sF]
  refine tkA (i := 45) (v := ?_) rfl (Or.inl ⟨by rfl, ?_⟩) ?_
  rotate_left
  · intro w_ hSw; (try dsimp only at hSw); go_simp <;> with_reducible rfl
  try simp only [Act.put, sA, sB, sC, sD, sE, sF]
  refine tkA (i := 46) (v := ?_) rfl (Or.inl ⟨by rfl, ?_⟩) ?_
  rotate_left
  · intro w_ hSw; (try dsimp only at hSw); go_simp <;> with_reducible rfl
  try simp only [Act.put, sA, sB, sC, sD, sE, sF]
  refine wpAnyH_ready (rs := [47]) (by kernel_rfl) (by simp) ?_
  refine AllReadyH.cons rfl (fun K hK => ?_) AllReadyH.nil
  go_simp
  go_at_call 114
  refine Calls.mono (backI s n d r l b g k true Dk.out _) ?_
  rintro e v7 ⟨rfl, hbc⟩
  have HK7 := hq (HK6.out.on hbc)
  go_wp2_with fail
  refine hK.out _ _ ?_ (fun hHeld7 => ?_)
  · exact kp_conj HK7.out
  clear hK K hbc HK6
  try simp only [Act.put, sA, sB, sC, sD, sE, sF]
  refine tkA (i := 48) (v := ?_) rfl (Or.inl ⟨by rfl, ?_⟩) ?_
  rotate_left
  · intro w_ hSw; (try dsimp only at hSw); go_simp <;> with_reducible rfl
  try simp only [Act.put, sA, sB, sC, sD, sE, sF]
  refine tkA (i := 49) (v := ?_) rfl (Or.inl ⟨by rfl, ?_⟩) ?_
  rotate_left
  · intro w_ hSw; (try dsimp only at hSw); go_simp <;> with_reducible rfl
  try simp only [Act.put, sA, sB, sC, sD, sE, sF]
  refine wpAnyH_done (by kernel_rfl) ?_ _
  go_wp2
  go_ret
  exact ⟨rfl, HK7.out.2⟩
end Go.Proofs.YtfhhnelffldggaaGreatDoor
