/-
  Small functions of the program's pump.
-/
import Derived.Test.YtpjnmkijndmemaaSpTk0
import Derived.Laws.EntriesVeiled
namespace Go.Proofs.Ytpjnmkijndmemaa
open Go.RowKit Go.PlainAid
set_option linter.unusedVariables false
set_option linter.unusedSimpArgs false

set_option maxRecDepth 100000 in
set_option maxHeartbeats 1000000 in
theorem volI (s n d r l b g k : Int) (B : Bool) (hB : decide (s = 1 ∨ s = 3 ∧ k = 1) = B) (w : World) : Calls Try.prog 44 #[.agg #[.int .i64 s, .int .i64 n, .int .i64 d, .int .i64 r, .int .i64 l, .int .i64 b, .int .i64 g, .int .i64 k]] w fun e w' => e = .returned (.bool B) ∧ Below w.heap.size w w' := by
  have HB0 : Hid (Below w.heap.size w (w.alloc (.cells #[.int .i64 s, .int .i64 n, .int .i64 d, .int .i64 r, .int .i64 l, .int .i64 b, .int .i64 g, .int .i64 k] 27))) := alP _ _
  have HP0 : Hid ((w.alloc (.cells #[.int .i64 s, .int .i64 n, .int .i64 d, .int .i64 r, .int .i64 l, .int .i64 b, .int .i64 g, .int .i64 k] 27)).heap[w.heap.size]? = some (.cells #[.int .i64 s, .int .i64 n, .int .i64 d, .int .i64 r, .int .i64 l, .int .i64 b, .int .i64 g, .int .i64 k] 27)) := heap_new w _
  have p0 := box8_cells HP0.out
  by_cases h1 : s = 1
  · obtain rfl : B = true := by rw [← hB]; exact decide_eq_true (Or.inl h1)
    subst h1
    clear hB
    go_enter Try.func44, Try.ntmps44
    go_wp2
    go_ret
    exact ⟨rfl, HB0.out⟩
  have q1 : (s == 1) = false := by simpa using h1
  by_cases h3 : s = 3
  · by_cases hk : k = 1
    · obtain rfl : B = true := by rw [← hB]; exact decide_eq_true (Or.inr ⟨h3, hk⟩)
      subst h3
      subst hk
      clear hB
      go_enter Try.func44, Try.ntmps44
      go_wp2
      go_ret
      exact ⟨rfl, HB0.out⟩
    · obtain rfl : B = false := by rw [← hB]; exact decide_eq_false (by omega)
      have qk : (k == 1) = false := by simpa using hk
      subst h3
      clear hB
      go_enter Try.func44, Try.ntmps44
      go_wp2
      go_ret
      exact ⟨rfl, HB0.out⟩
  have q3 : (s == 3) = false := by simpa using h3
  obtain rfl : B = false := by rw [← hB]; exact decide_eq_false (by omega)
  clear hB
  go_enter Try.func44, Try.ntmps44
  go_wp2
  go_ret
  exact ⟨rfl, HB0.out⟩
set_option maxRecDepth 100000 in
set_option maxHeartbeats 1000000 in
theorem backI (s n d r l b g k : Int) (B : Bool) (hB : decide ((s = 3 ∧ 0 ≤ k ∧ k ≤ 2) ∨ (¬ s = 3 ∧ k = 0)) = B) (w : World) : Calls Try.prog 45 #[.agg #[.int .i64 s, .int .i64 n, .int .i64 d, .int .i64 r, .int .i64 l, .int .i64 b, .int .i64 g, .int .i64 k]] w fun e w' => e = .returned (.bool B) ∧ Below w.heap.size w w' := by
  have HB0 : Hid (Below w.heap.size w (w.alloc (.cells #[.int .i64 s, .int .i64 n, .int .i64 d, .int .i64 r, .int .i64 l, .int .i64 b, .int .i64 g, .int .i64 k] 27))) := alP _ _
  have HP0 : Hid ((w.alloc (.cells #[.int .i64 s, .int .i64 n, .int .i64 d, .int .i64 r, .int .i64 l, .int .i64 b, .int .i64 g, .int .i64 k] 27)).heap[w.heap.size]? = some (.cells #[.int .i64 s, .int .i64 n, .int .i64 d, .int .i64 r, .int .i64 l, .int .i64 b, .int .i64 g, .int .i64 k] 27)) := heap_new w _
  have p0 := box8_cells HP0.out
  by_cases h3 : s = 3
  · have HD : Hid (decide (0 ≤ k ∧ k ≤ 2) = B) := by
      show _ = _
      rw [← hB]
      by_cases h : 0 ≤ k ∧ k ≤ 2
      · rw [decide_eq_true h, decide_eq_true (Or.inl ⟨h3, h⟩)]
      · rw [decide_eq_false h, decide_eq_false (by omega)]
    subst h3
    clear hB
    go_enter Try.func45, Try.ntmps45
    go_wp2_with fail
    refine (holdsI 0 2 k B HD.out _).mono ?_
    rintro e w1 ⟨rfl, hb1⟩
    have HB1 : Hid (Below w.heap.size w w1) := bel_on (Nat.le_refl _) HB0.out hb1
    clear hb1
    go_wp2
    go_ret
    exact ⟨rfl, HB1.out⟩
  have q3 : (s != 3) = true := by simpa using h3
  by_cases hk : k = 0
  · obtain rfl : B = true := by rw [← hB]; exact decide_eq_true (Or.inr ⟨h3, hk⟩)
    subst hk
    clear hB
    go_enter Try.func45, Try.ntmps45
    go_wp2
    go_ret
    exact ⟨rfl, HB0.out⟩
  · obtain rfl : B = false := by rw [← hB]; exact decide_eq_false (by omega)
    have qk : (k == 0) = false := by simpa using hk
    clear hB
    go_enter Try.func45, Try.ntmps45
    go_wp2
    go_ret
    exact ⟨rfl, HB0.out⟩
theorem intoI (l m n z : Int) (hz : min (max n l) m = z) (w : World) : Calls Try.prog 39 #[.agg #[.int .i64 l, .int .i64 m], .int .i64 n] w fun e w' => e = .returned (.int .i64 z) ∧ Below w.heap.size w w' := by
  by_cases h1 : l ≤ n
  · by_cases h2 : n ≤ m
    · obtain rfl : n = z := by omega
      clear hz
      go_enter Try.func39, Try.ntmps39
      go_wp2
      go_ret
      exact ⟨rfl, (Below.refl _ _).alloc (Nat.le_refl _) _⟩
    · obtain rfl : m = z := by omega
      clear hz
      go_enter Try.func39, Try.ntmps39
      go_wp2
      go_ret
      exact ⟨rfl, (Below.refl _ _).alloc (Nat.le_refl _) _⟩
  · by_cases h2 : l ≤ m
    · obtain rfl : l = z := by omega
      clear hz
      go_enter Try.func39, Try.ntmps39
      go_wp2
      go_ret
      exact ⟨rfl, (Below.refl _ _).alloc (Nat.le_refl _) _⟩
    · obtain rfl : m = z := by omega
      clear hz
      go_enter Try.func39, Try.ntmps39
      go_wp2
      go_ret
      exact ⟨rfl, (Below.refl _ _).alloc (Nat.le_refl _) _⟩
theorem bigI (w : World) : Calls Try.prog 73 #[] w fun e w' => e = .returned (.agg #[.int .i64 (-1000000000000), .int .i64 1000000000000]) ∧ Below w.heap.size w w' := by
  go_enter Try.func73, Try.ntmps73
  go_wp2
  refine bodyPost_ret (v := .agg #[.int .i64 (-1000000000000), .int .i64 1000000000000]) (by simp [results, Try.results73, go_sem]) rfl ⟨rfl, ?_⟩
  exact (Below.refl _ _).alloc (Nat.le_refl _) _
theorem bolI (s n d r l b g k z : Int) (hz : min b 3 = z) (w : World) : Calls Try.prog 68 #[.agg #[.int .i64 s, .int .i64 n, .int .i64 d, .int .i64 r, .int .i64 l, .int .i64 b, .int .i64 g, .int .i64 k]] w fun e w' => e = .returned (.int .i64 z) ∧ Below w.heap.size w w' := by
  have HB0 : Hid (Below w.heap.size w (w.alloc (.cells #[.int .i64 s, .int .i64 n, .int .i64 d, .int .i64 r, .int .i64 l, .int .i64 b, .int .i64 g, .int .i64 k] 27))) := alP _ _
  have HP0 : Hid ((w.alloc (.cells #[.int .i64 s, .int .i64 n, .int .i64 d, .int .i64 r, .int .i64 l, .int .i64 b, .int .i64 g, .int .i64 k] 27)).heap[w.heap.size]? = some (.cells #[.int .i64 s, .int .i64 n, .int .i64 d, .int .i64 r, .int .i64 l, .int .i64 b, .int .i64 g, .int .i64 k] 27)) := heap_new w _
  have p0 := box8_cells HP0.out
  by_cases h : b ≤ 3
  · obtain rfl : b = z := by omega
    have e1 : min b 3 = b := by omega
    clear hz
    go_enter Try.func68, Try.ntmps68
    go_wp2
    go_ret
    exact ⟨rfl, HB0.out⟩
  · obtain rfl : 3 = z := by omega
    have e1 : min b 3 = 3 := by omega
    clear hz
    go_enter Try.func68, Try.ntmps68
    go_wp2
    go_ret
    exact ⟨rfl, HB0.out⟩
theorem rtpI (s n d r l b g k r' y : Int) (KR : Hid (∀ w, Calls Try.prog 71 #[.agg #[.int .i64 n, .int .i64 d, .int .i64 r]] w fun e w' => e = .returned (.tuple #[.agg #[.int .i64 n, .int .i64 d, .int .i64 r'], .int .i64 y]) ∧ Below w.heap.size w w')) (w : World) : Calls Try.prog 67 #[.agg #[.int .i64 s, .int .i64 n, .int .i64 d, .int .i64 r, .int .i64 l, .int .i64 b, .int .i64 g, .int .i64 k]] w fun e w' => e = .returned (.int .i64 y) ∧ Below w.heap.size w w' := by
  have HB0 : Hid (Below w.heap.size w (w.alloc (.cells #[.int .i64 s, .int .i64 n, .int .i64 d, .int .i64 r, .int .i64 l, .int .i64 b, .int .i64 g, .int .i64 k] 27))) := alP _ _
  have HP0 : Hid ((w.alloc (.cells #[.int .i64 s, .int .i64 n, .int .i64 d, .int .i64 r, .int .i64 l, .int .i64 b, .int .i64 g, .int .i64 k] 27)).heap[w.heap.size]? = some (.cells #[.int .i64 s, .int .i64 n, .int .i64 d, .int .i64 r, .int .i64 l, .int .i64 b, .int .i64 g, .int .i64 k] 27)) := heap_new w _
  have p0 := box8_cells HP0.out
  go_enter Try.func67, Try.ntmps67
  go_wp2_with fail
  refine Calls.mono (KR.out _) ?_
  rintro e w1 ⟨rfl, hb1⟩
  have HB1 : Hid (Below w.heap.size w (w1.alloc (.cells #[.int .i64 n, .int .i64 d, .int .i64 r'] 25))) := bel_on (Nat.le_refl _) (bel_on (Nat.le_refl _) HB0.out hb1) (alP _ _)
  clear hb1
  go_wp2
  go_ret
  exact ⟨rfl, HB1.out⟩
theorem npI (s n d r l b g k : Int) (w : World) : Calls Try.prog 62 #[.agg #[.int .i64 s, .int .i64 n, .int .i64 d, .int .i64 r, .int .i64 l, .int .i64 b, .int .i64 g, .int .i64 k]] w fun e w' => e = .returned (.int .i64 0) ∧ Below w.heap.size w w' := by
  have HB0 : Hid (Below w.heap.size w (w.alloc (.cells #[.int .i64 s, .int .i64 n, .int .i64 d, .int .i64 r, .int .i64 l, .int .i64 b, .int .i64 g, .int .i64 k] 27))) := alP _ _
  have HP0 : Hid ((w.alloc (.cells #[.int .i64 s, .int .i64 n, .int .i64 d, .int .i64 r, .int .i64 l, .int .i64 b, .int .i64 g, .int .i64 k] 27)).heap[w.heap.size]? = some (.cells #[.int .i64 s, .int .i64 n, .int .i64 d, .int .i64 r, .int .i64 l, .int .i64 b, .int .i64 g, .int .i64 k] 27)) := heap_new w _
  have p0 := box8_cells HP0.out
  go_enter Try.func62, Try.ntmps62
  go_wp2
  go_ret
  exact ⟨rfl, HB0.out⟩
set_option maxRecDepth 100000 in
set_option maxHeartbeats 2000000 in
theorem nothI (s n d r l b g k a : Int) (w : World) : Calls Try.prog 63 #[.agg #[.int .i64 s, .int .i64 n, .int .i64 d, .int .i64 r, .int .i64 l, .int .i64 b, .int .i64 g, .int .i64 k], .int .i64 a] w fun e w' => e = .returned (.agg #[.int .i64 s, .int .i64 n, .int .i64 d, .int .i64 r, .int .i64 l, .int .i64 b, .int .i64 g, .int .i64 k]) ∧ Below w.heap.size w w' := by
  have HB0 : Hid (Below w.heap.size w ((w.alloc (.cells #[.int .i64 s, .int .i64 n, .int .i64 d, .int .i64 r, .int .i64 l, .int .i64 b, .int .i64 g, .int .i64 k] 27)).alloc (.cells #[.int .i64 0, .int .i64 0, .int .i64 0, .int .i64 0, .int .i64 0, .int .i64 0, .int .i64 0, .int .i64 0] 27))) := bel_on (Nat.le_refl _) (alP _ _) (alP _ _)
  have HP0 : Hid (((w.alloc (.cells #[.int .i64 s, .int .i64 n, .int .i64 d, .int .i64 r, .int .i64 l, .int .i64 b, .int .i64 g, .int .i64 k] 27)).alloc (.cells #[.int .i64 0, .int .i64 0, .int .i64 0, .int .i64 0, .int .i64 0, .int .i64 0, .int .i64 0, .int .i64 0] 27)).heap[w.heap.size]? = some (.cells #[.int .i64 s, .int .i64 n, .int .i64 d, .int .i64 r, .int .i64 l, .int .i64 b, .int .i64 g, .int .i64 k] 27)) := row_on (heap_new w _) (alP _ _)
  have HZ0 : Hid (((w.alloc (.cells #[.int .i64 s, .int .i64 n, .int .i64 d, .int .i64 r, .int .i64 l, .int .i64 b, .int .i64 g, .int .i64 k] 27)).alloc (.cells #[.int .i64 0, .int .i64 0, .int .i64 0, .int .i64 0, .int .i64 0, .int .i64 0, .int .i64 0, .int .i64 0] 27)).heap[w.heap.size + 1]? = some (.cells #[.int .i64 0, .int .i64 0, .int .i64 0, .int .i64 0, .int .i64 0, .int .i64 0, .int .i64 0, .int .i64 0] 27)) := al_at (w.alloc (.cells #[.int .i64 s, .int .i64 n, .int .i64 d, .int .i64 r, .int .i64 l, .int .i64 b, .int .i64 g, .int .i64 k] 27)) _ (by simp)
  have p0 := box8_cells HP0.out
  go_enter Try.func63, Try.ntmps63
  go_upto_region 1 with fail
  go_wp2_with (refine listStoreP rfl rfl _ _ _ rfl rfl (w.heap.size + 1) (s) (n) (d) (r) (l) (b) (g) (k) rfl rfl HZ0.out ?_)
  intro w99 hr9 ho9 hs9 hB9
  have HF : Hid (Below w.heap.size w w99) := hB9 _ _ (Nat.le_succ _) HB0.out
  obtain ⟨⟨q0, q1, q2, q3, q4, q5, q6, q7⟩, _⟩ := box8_cells hr9
  clear ho9 hs9 hB9 hr9
  go_wp2
  refine bodyPost_ret (v := .agg #[.int .i64 s, .int .i64 n, .int .i64 d, .int .i64 r, .int .i64 l, .int .i64 b, .int .i64 g, .int .i64 k]) (by simp only [results, Try.results63]; simp [go_sem, q0, q1, q2, q3, q4, q5, q6, q7]) rfl ⟨rfl, HF.out⟩
set_option maxRecDepth 100000 in
set_option maxHeartbeats 2000000 in
theorem stI_0 (n d r l b g k : Int) (w : World) : Calls Try.prog 35 #[.agg #[.int .i64 0, .int .i64 n, .int .i64 d, .int .i64 r, .int .i64 l, .int .i64 b, .int .i64 g, .int .i64 k]] w fun e w' => e = .returned (.agg #[.func (.func 64) #[.agg #[.int .i64 0, .int .i64 n, .int .i64 d, .int .i64 r, .int .i64 l, .int .i64 b, .int .i64 g, .int .i64 k]] #[], .func (.func 62) #[.agg #[.int .i64 0, .int .i64 n, .int .i64 d, .int .i64 r, .int .i64 l, .int .i64 b, .int .i64 g, .int .i64 k]] #[], .func (.func 63) #[.agg #[.int .i64 0, .int .i64 n, .int .i64 d, .int .i64 r, .int .i64 l, .int .i64 b, .int .i64 g, .int .i64 k]] #[]]) ∧ Below w.heap.size w w' := by
  have HB0 : Hid (Below w.heap.size w (w.alloc (.cells #[.int .i64 0, .int .i64 n, .int .i64 d, .int .i64 r, .int .i64 l, .int .i64 b, .int .i64 g, .int .i64 k] 27))) := alP _ _
  have HP0 : Hid ((w.alloc (.cells #[.int .i64 0, .int .i64 n, .int .i64 d, .int .i64 r, .int .i64 l, .int .i64 b, .int .i64 g, .int .i64 k] 27)).heap[w.heap.size]? = some (.cells #[.int .i64 0, .int .i64 n, .int .i64 d, .int .i64 r, .int .i64 l, .int .i64 b, .int .i64 g, .int .i64 k] 27)) := heap_new w _
  have p0 := box8_cells HP0.out
  go_enter Try.func35, Try.ntmps35
  go_wp2
  refine bodyPost_ret (v := .agg #[.func (.func 64) #[.agg #[.int .i64 0, .int .i64 n, .int .i64 d, .int .i64 r, .int .i64 l, .int .i64 b, .int .i64 g, .int .i64 k]] #[], .func (.func 62) #[.agg #[.int .i64 0, .int .i64 n, .int .i64 d, .int .i64 r, .int .i64 l, .int .i64 b, .int .i64 g, .int .i64 k]] #[], .func (.func 63) #[.agg #[.int .i64 0, .int .i64 n, .int .i64 d, .int .i64 r, .int .i64 l, .int .i64 b, .int .i64 g, .int .i64 k]] #[]]) (by simp [results, Try.results35, go_sem]) rfl ⟨rfl, ?_⟩
  exact bel_on (Nat.le_refl _) HB0.out (alP _ _)
set_option maxRecDepth 100000 in
set_option maxHeartbeats 2000000 in
theorem stI_1 (n d r l b g k : Int) (w : World) : Calls Try.prog 35 #[.agg #[.int .i64 1, .int .i64 n, .int .i64 d, .int .i64 r, .int .i64 l, .int .i64 b, .int .i64 g, .int .i64 k]] w fun e w' => e = .returned (.agg #[.func (.func 55) #[.agg #[.int .i64 1, .int .i64 n, .int .i64 d, .int .i64 r, .int .i64 l, .int .i64 b, .int .i64 g, .int .i64 k]] #[], .func (.func 56) #[.agg #[.int .i64 1, .int .i64 n, .int .i64 d, .int .i64 r, .int .i64 l, .int .i64 b, .int .i64 g, .int .i64 k]] #[], .func (.func 57) #[.agg #[.int .i64 1, .int .i64 n, .int .i64 d, .int .i64 r, .int .i64 l, .int .i64 b, .int .i64 g, .int .i64 k]] #[]]) ∧ Below w.heap.size w w' := by
  have HB0 : Hid (Below w.heap.size w (w.alloc (.cells #[.int .i64 1, .int .i64 n, .int .i64 d, .int .i64 r, .int .i64 l, .int .i64 b, .int .i64 g, .int .i64 k] 27))) := alP _ _
  have HP0 : Hid ((w.alloc (.cells #[.int .i64 1, .int .i64 n, .int .i64 d, .int .i64 r, .int .i64 l, .int .i64 b, .int .i64 g, .int .i64 k] 27)).heap[w.heap.size]? = some (.cells #[.int .i64 1, .int .i64 n, .int .i64 d, .int .i64 r, .int .i64 l, .int .i64 b, .int .i64 g, .int .i64 k] 27)) := heap_new w _
  have p0 := box8_cells HP0.out
  go_enter Try.func35, Try.ntmps35
  go_wp2
  refine bodyPost_ret (v := .agg #[.func (.func 55) #[.agg #[.int .i64 1, .int .i64 n, .int .i64 d, .int .i64 r, .int .i64 l, .int .i64 b, .int .i64 g, .int .i64 k]] #[], .func (.func 56) #[.agg #[.int .i64 1, .int .i64 n, .int .i64 d, .int .i64 r, .int .i64 l, .int .i64 b, .int .i64 g, .int .i64 k]] #[], .func (.func 57) #[.agg #[.int .i64 1, .int .i64 n, .int .i64 d, .int .i64 r, .int .i64 l, .int .i64 b, .int .i64 g, .int .i64 k]] #[]]) (by simp [results, Try.results35, go_sem]) rfl ⟨rfl, ?_⟩
  exact bel_on (Nat.le_refl _) HB0.out (alP _ _)
set_option maxRecDepth 100000 in
set_option maxHeartbeats 2000000 in
theorem stI_2 (n d r l b g k : Int) (w : World) : Calls Try.prog 35 #[.agg #[.int .i64 2, .int .i64 n, .int .i64 d, .int .i64 r, .int .i64 l, .int .i64 b, .int .i64 g, .int .i64 k]] w fun e w' => e = .returned (.agg #[.func (.func 58) #[.agg #[.int .i64 2, .int .i64 n, .int .i64 d, .int .i64 r, .int .i64 l, .int .i64 b, .int .i64 g, .int .i64 k]] #[], .func (.func 59) #[.agg #[.int .i64 2, .int .i64 n, .int .i64 d, .int .i64 r, .int .i64 l, .int .i64 b, .int .i64 g, .int .i64 k]] #[], .func (.func 60) #[.agg #[.int .i64 2, .int .i64 n, .int .i64 d, .int .i64 r, .int .i64 l, .int .i64 b, .int .i64 g, .int .i64 k]] #[]]) ∧ Below w.heap.size w w' := by
  have HB0 : Hid (Below w.heap.size w (w.alloc (.cells #[.int .i64 2, .int .i64 n, .int .i64 d, .int .i64 r, .int .i64 l, .int .i64 b, .int .i64 g, .int .i64 k] 27))) := alP _ _
  have HP0 : Hid ((w.alloc (.cells #[.int .i64 2, .int .i64 n, .int .i64 d, .int .i64 r, .int .i64 l, .int .i64 b, .int .i64 g, .int .i64 k] 27)).heap[w.heap.size]? = some (.cells #[.int .i64 2, .int .i64 n, .int .i64 d, .int .i64 r, .int .i64 l, .int .i64 b, .int .i64 g, .int .i64 k] 27)) := heap_new w _
  have p0 := box8_cells HP0.out
  go_enter Try.func35, Try.ntmps35
  go_wp2
  refine bodyPost_ret (v := .agg #[.func (.func 58) #[.agg #[.int .i64 2, .int .i64 n, .int .i64 d, .int .i64 r, .int .i64 l, .int .i64 b, .int .i64 g, .int .i64 k]] #[], .func (.func 59) #[.agg #[.int .i64 2, .int .i64 n, .int .i64 d, .int .i64 r, .int .i64 l, .int .i64 b, .int .i64 g, .int .i64 k]] #[], .func (.func 60) #[.agg #[.int .i64 2, .int .i64 n, .int .i64 d, .int .i64 r, .int .i64 l, .int .i64 b, .int .i64 g, .int .i64 k]] #[]]) (by simp [results, Try.results35, go_sem]) rfl ⟨rfl, ?_⟩
  exact bel_on (Nat.le_refl _) HB0.out (alP _ _)
set_option maxRecDepth 100000 in
set_option maxHeartbeats 2000000 in
theorem stI_3 (n d r l b g k : Int) (w : World) : Calls Try.prog 35 #[.agg #[.int .i64 3, .int .i64 n, .int .i64 d, .int .i64 r, .int .i64 l, .int .i64 b, .int .i64 g, .int .i64 k]] w fun e w' => e = .returned (.agg #[.func (.func 61) #[.agg #[.int .i64 3, .int .i64 n, .int .i64 d, .int .i64 r, .int .i64 l, .int .i64 b, .int .i64 g, .int .i64 k]] #[], .func (.func 62) #[.agg #[.int .i64 3, .int .i64 n, .int .i64 d, .int .i64 r, .int .i64 l, .int .i64 b, .int .i64 g, .int .i64 k]] #[], .func (.func 63) #[.agg #[.int .i64 3, .int .i64 n, .int .i64 d, .int .i64 r, .int .i64 l, .int .i64 b, .int .i64 g, .int .i64 k]] #[]]) ∧ Below w.heap.size w w' := by
  have HB0 : Hid (Below w.heap.size w (w.alloc (.cells #[.int .i64 3, .int .i64 n, .int .i64 d, .int .i64 r, .int .i64 l, .int .i64 b, .int .i64 g, .int .i64 k] 27))) := alP _ _
  have HP0 : Hid ((w.alloc (.cells #[.int .i64 3, .int .i64 n, .int .i64 d, .int .i64 r, .int .i64 l, .int .i64 b, .int .i64 g, .int .i64 k] 27)).heap[w.heap.size]? = some (.cells #[.int .i64 3, .int .i64 n, .int .i64 d, .int .i64 r, .int .i64 l, .int .i64 b, .int .i64 g, .int .i64 k] 27)) := heap_new w _
  have p0 := box8_cells HP0.out
  go_enter Try.func35, Try.ntmps35
  go_wp2
  refine bodyPost_ret (v := .agg #[.func (.func 61) #[.agg #[.int .i64 3, .int .i64 n, .int .i64 d, .int .i64 r, .int .i64 l, .int .i64 b, .int .i64 g, .int .i64 k]] #[], .func (.func 62) #[.agg #[.int .i64 3, .int .i64 n, .int .i64 d, .int .i64 r, .int .i64 l, .int .i64 b, .int .i64 g, .int .i64 k]] #[], .func (.func 63) #[.agg #[.int .i64 3, .int .i64 n, .int .i64 d, .int .i64 r, .int .i64 l, .int .i64 b, .int .i64 g, .int .i64 k]] #[]]) (by simp [results, Try.results35, go_sem]) rfl ⟨rfl, ?_⟩
  exact bel_on (Nat.le_refl _) HB0.out (alP _ _)
end Go.Proofs.Ytpjnmkijndmemaa
