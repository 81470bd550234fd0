/-
  Rates in two parts: the walk of the law over bytes that are not too many.
-/
import Derived.Test.YtcjidlbpkijmnabRDraw
namespace Go.Proofs.Ytcjidlbpkijmnab
open Go.RowKit Go.PlainAid
set_option linter.unusedVariables false

theorem run_add (n d r : Int) (k j : Nat) : runR n d r (k + j) = runR n d (runR n d r k) j ∧ runS n d r (k + j) = runS n d r k + runS n d (runR n d r k) j := by
  induction j with
  | zero => exact ⟨rfl, (Int.add_zero _).symm⟩
  | succ j ih =>
    obtain ⟨h1, h2⟩ := ih
    refine ⟨?_, ?_⟩
    · show stepR n d (runR n d r (k + j)) = stepR n d (runR n d (runR n d r k) j)
      rw [h1]
    · show runS n d r (k + j) + stepO n d (runR n d r (k + j)) = runS n d r k + (runS n d (runR n d r k) j + stepO n d (runR n d (runR n d r k) j))
      rw [h1, h2]
      omega
theorem run_still {n d r : Int} (h : ¬ (0 ≤ n ∧ n ≤ 1000000 ∧ 1 ≤ d ∧ d ≤ 1000000 ∧ 0 ≤ r ∧ r ≤ d - 1)) (k : Nat) : runR n d r k = r := by
  induction k with
  | zero => rfl
  | succ k ih =>
    show stepR n d (runR n d r k) = r
    rw [ih]
    exact if_neg h

theorem run19' (n d r m R O : Int) (hR : runR n d r (cnt m) = R) (hO : runS n d r (cnt m) = O) (w : World) : Calls Try.prog 7 #[.agg #[.int .i64 n, .int .i64 d, .int .i64 r], .int .i64 m] w fun e w' => e = .returned (.tuple #[.agg #[.int .i64 n, .int .i64 d, .int .i64 R], .int .i64 O]) ∧ Below w.heap.size w w' := by
  have h := run19 n d r m w
  rw [hR, hO] at h
  exact h
theorem step16' (n d r R O : Int) (hR : stepR n d r = R) (hO : stepO n d r = O) (w : World) : Calls Try.prog 8 #[.agg #[.int .i64 n, .int .i64 d, .int .i64 r]] w fun e w' => e = .returned (.tuple #[.agg #[.int .i64 n, .int .i64 d, .int .i64 R], .int .i64 O]) ∧ Below w.heap.size w w' := by
  have h := step16 n d r w
  rw [hR, hO] at h
  exact h
theorem sstep15' (n d r R O : Int) (hR : stepR n d r = R) (hO : stepO n d r = O) (w : World) : Calls Try.prog 9 #[.agg #[.int .i64 n, .int .i64 d, .int .i64 r]] w fun e w' => e = .returned (.tuple #[.agg #[.int .i64 n, .int .i64 d, .int .i64 R], .int .i64 O]) ∧ Below w.heap.size w w' := by
  have h := sstep15 n d r w
  rw [hR, hO] at h
  exact h
theorem rate14' (n d r : Int) (b : Bool) (h : rateOk n d r = b) (w : World) : Calls Try.prog 10 #[.agg #[.int .i64 n, .int .i64 d, .int .i64 r]] w fun e w' => e = .returned (.bool b) ∧ Below w.heap.size w w' := by
  have k := rate14 n d r w
  rw [h] at k
  exact k

/-- a row, behind a call that only grows and a block more -/
theorem row_on {W w' : World} {k : Nat} {x y z : Value} (h : W.heap[k]? = some (.cells #[x, y, z] 25)) (hb : Below W.heap.size W w') (o : Obj) : (w'.alloc o).heap[k]? = some (.cells #[x, y, z] 25) :=
  (Below.heap_alloc w' o k (row_lt (row3_after h hb))).trans (row3_after h hb)
theorem bel_on {B : Nat} {w W w' : World} (h : Below B w W) (hb : Below W.heap.size W w') (hB : B ≤ W.heap.size) (o : Obj) : Below B w (w'.alloc o) :=
  (h.trans (hb.mono hB)).alloc (Nat.le_trans hB hb.size) o

set_option maxHeartbeats 1000000 in
theorem parts_in (a0 : Option Addr) (len0 cap0 : Nat) (hb : len0 ≤ 1048576) (w : World) (hcode : CodeOk w w.heap.size a0 len0) :
    Calls Try.prog 3 #[.slice a0 len0 cap0] w fun e w' => e = .returned (.bool true) ∧ Below w.heap.size w w' := by
  have HC : Hid (CodeOk w w.heap.size a0 len0) := hcode
  clear hcode
  go_enter Try.func3, Try.ntmps3
  go_wp2_with fail
  refine (big5 a0 len0 cap0 (by omega) _).mono ?_
  rintro e w1 ⟨rfl, rfl⟩
  rw [decide_eq_false (by omega)]
  go_wp2_with fail
  refine (drate5 w1.heap.size a0 len0 cap0 _ HC.out (Nat.le_refl _)).mono ?_
  rintro e w2 ⟨n, d, r, rfl, hb2⟩
  have HW2 : Hid (Below w1.heap.size w1 (w2.alloc (.cells #[.int .i64 n, .int .i64 d, .int .i64 r] 25))) := hb2.alloc hb2.size _
  have H3 : Hid ((w2.alloc (.cells #[.int .i64 n, .int .i64 d, .int .i64 r] 25)).heap[w2.heap.size]? = _) := heap_new w2 _
  have HC2 : Hid (CodeOk (w2.alloc (.cells #[.int .i64 n, .int .i64 d, .int .i64 r] 25)) w1.heap.size a0 len0) := code_below HC.out HW2.out
  clear HC hb2
  go_wp2_with fail
  refine (places7 w1.heap.size a0 len0 cap0 _ HC2.out HW2.out.size).mono ?_
  rintro e w4 ⟨g, cp, p0, p1, p2, p3, rfl, r0, r1, r2, r3, hg, c0, c1, c2, c3, hg3, hb4⟩
  have HW4 : Hid (Below w1.heap.size w1 w4) := HW2.out.trans (hb4.mono HW2.out.size)
  have H4 : Hid (w4.heap[w2.heap.size]? = _) := row3_after H3.out hb4
  clear HC2 HW2 H3 hb4 c2 c3 r2 r3 hg hg3
  obtain ⟨R1, HR1⟩ : ∃ R1, Hid (runR n d r (cnt (p0 % 50)) = R1) := ⟨_, rfl⟩
  obtain ⟨X1, HX1⟩ : ∃ X1, Hid (runS n d r (cnt (p0 % 50)) = X1) := ⟨_, rfl⟩
  obtain ⟨R2, HR2⟩ : ∃ R2, Hid (runR n d R1 (cnt (p1 % 50)) = R2) := ⟨_, rfl⟩
  obtain ⟨X2, HX2⟩ : ∃ X2, Hid (runS n d R1 (cnt (p1 % 50)) = X2) := ⟨_, rfl⟩
  have hcc : cnt (p0 % 50 + p1 % 50) = cnt (p0 % 50) + cnt (p1 % 50) := by unfold cnt; omega
  have HR3 : Hid (runR n d r (cnt (p0 % 50 + p1 % 50)) = R2) := by
    show _ = _
    rw [hcc, (run_add n d r _ _).1, HR1.out, HR2.out]
  have HX3 : Hid (runS n d r (cnt (p0 % 50 + p1 % 50)) = X1 + X2) := by
    show _ = _
    rw [hcc, (run_add n d r _ _).2, HR1.out, HX1.out, HX2.out]
  have hx1 : 0 ≤ X1 ∧ X1 ≤ 2000000000 := by
    have h := runS_range n d r (cnt (p0 % 50))
    rw [HX1.out] at h
    have : ((cnt (p0 % 50) : Nat) : Int) ≤ 50 := by unfold cnt; omega
    omega
  have hx2 : 0 ≤ X2 ∧ X2 ≤ 2000000000 := by
    have h := runS_range n d R1 (cnt (p1 % 50))
    rw [HX2.out] at h
    have : ((cnt (p1 % 50) : Nat) : Int) ≤ 50 := by unfold cnt; omega
    omega
  obtain ⟨RS, HRS⟩ : ∃ RS, Hid (stepR n d r = RS) := ⟨_, rfl⟩
  obtain ⟨OS, HOS⟩ : ∃ OS, Hid (stepO n d r = OS) := ⟨_, rfl⟩
  have HN : Hid (¬ (0 ≤ n ∧ n ≤ 1000000 ∧ 1 ≤ d ∧ d ≤ 1000000 ∧ 0 ≤ r ∧ r ≤ d - 1) → R2 = r ∧ OS = 0) := by
    intro h
    refine ⟨?_, ?_⟩
    · rw [← HR3.out]
      exact run_still h _
    · rw [← HOS.out]
      exact if_neg h
  clear hcc
  have k4 := row3_cells H4.out
  go_wp2_with fail
  refine (run19' _ _ _ _ R1 X1 HR1.out HX1.out _).mono ?_
  rintro e w5 ⟨rfl, hb5⟩
  have HW5 : Hid (Below w1.heap.size w1 (w5.alloc (.cells #[.int .i64 n, .int .i64 d, .int .i64 R1] 25))) := bel_on HW4.out hb5 HW4.out.size _
  have H35 : Hid ((w5.alloc (.cells #[.int .i64 n, .int .i64 d, .int .i64 R1] 25)).heap[w2.heap.size]? = _) := row_on H4.out hb5 _
  have H75 : Hid ((w5.alloc (.cells #[.int .i64 n, .int .i64 d, .int .i64 R1] 25)).heap[w5.heap.size]? = _) := heap_new w5 _
  have k7 := row3_cells H75.out
  clear HW4 H4 hb5 k4 c0 c1
  go_wp2_with fail
  refine (run19' _ _ _ _ R2 X2 HR2.out HX2.out _).mono ?_
  rintro e w6 ⟨rfl, hb6⟩
  have HW6 : Hid (Below w1.heap.size w1 (w6.alloc (.cells #[.int .i64 n, .int .i64 d, .int .i64 R2] 25))) := bel_on HW5.out hb6 HW5.out.size _
  have H36 : Hid ((w6.alloc (.cells #[.int .i64 n, .int .i64 d, .int .i64 R2] 25)).heap[w2.heap.size]? = _) := row_on H35.out hb6 _
  have H96 : Hid ((w6.alloc (.cells #[.int .i64 n, .int .i64 d, .int .i64 R2] 25)).heap[w6.heap.size]? = _) := heap_new w6 _
  have k3 := row3_cells H36.out
  clear HW5 H35 H75 hb6 k7
  go_wp2_with fail
  refine (run19' _ _ _ _ R2 (X1 + X2) HR3.out HX3.out _).mono ?_
  rintro e w7 ⟨rfl, hb7⟩
  have HW7 : Hid (Below w1.heap.size w1 (w7.alloc (.cells #[.int .i64 n, .int .i64 d, .int .i64 R2] 25))) := bel_on HW6.out hb7 HW6.out.size _
  have H37 : Hid ((w7.alloc (.cells #[.int .i64 n, .int .i64 d, .int .i64 R2] 25)).heap[w2.heap.size]? = _) := row_on H36.out hb7 _
  have H97 : Hid ((w7.alloc (.cells #[.int .i64 n, .int .i64 d, .int .i64 R2] 25)).heap[w6.heap.size]? = _) := row_on H96.out hb7 _
  have H117 : Hid ((w7.alloc (.cells #[.int .i64 n, .int .i64 d, .int .i64 R2] 25)).heap[w7.heap.size]? = _) := heap_new w7 _
  clear k3
  have k3 := row3_cells H37.out
  clear HW6 H36 H96 hb7
  go_wp2_with fail
  refine (step16' _ _ _ RS OS HRS.out HOS.out _).mono ?_
  rintro e w8 ⟨rfl, hb8⟩
  have HW8 : Hid (Below w1.heap.size w1 (w8.alloc (.cells #[.int .i64 n, .int .i64 d, .int .i64 RS] 25))) := bel_on HW7.out hb8 HW7.out.size _
  have H38 : Hid ((w8.alloc (.cells #[.int .i64 n, .int .i64 d, .int .i64 RS] 25)).heap[w2.heap.size]? = _) := row_on H37.out hb8 _
  have H98 : Hid ((w8.alloc (.cells #[.int .i64 n, .int .i64 d, .int .i64 RS] 25)).heap[w6.heap.size]? = _) := row_on H97.out hb8 _
  have H118 : Hid ((w8.alloc (.cells #[.int .i64 n, .int .i64 d, .int .i64 RS] 25)).heap[w7.heap.size]? = _) := row_on H117.out hb8 _
  have H138 : Hid ((w8.alloc (.cells #[.int .i64 n, .int .i64 d, .int .i64 RS] 25)).heap[w8.heap.size]? = _) := heap_new w8 _
  clear k3
  have k3 := row3_cells H38.out
  clear HW7 H37 H97 H117 hb8
  go_wp2_with fail
  refine (sstep15' _ _ _ RS OS HRS.out HOS.out _).mono ?_
  rintro e w9 ⟨rfl, hb9⟩
  have HW9 : Hid (Below w1.heap.size w1 (w9.alloc (.cells #[.int .i64 n, .int .i64 d, .int .i64 RS] 25))) := bel_on HW8.out hb9 HW8.out.size _
  have H39 : Hid ((w9.alloc (.cells #[.int .i64 n, .int .i64 d, .int .i64 RS] 25)).heap[w2.heap.size]? = _) := row_on H38.out hb9 _
  have H99 : Hid ((w9.alloc (.cells #[.int .i64 n, .int .i64 d, .int .i64 RS] 25)).heap[w6.heap.size]? = _) := row_on H98.out hb9 _
  have H119 : Hid ((w9.alloc (.cells #[.int .i64 n, .int .i64 d, .int .i64 RS] 25)).heap[w7.heap.size]? = _) := row_on H118.out hb9 _
  have H139 : Hid ((w9.alloc (.cells #[.int .i64 n, .int .i64 d, .int .i64 RS] 25)).heap[w8.heap.size]? = _) := row_on H138.out hb9 _
  have H159 : Hid ((w9.alloc (.cells #[.int .i64 n, .int .i64 d, .int .i64 RS] 25)).heap[w9.heap.size]? = _) := heap_new w9 _
  clear k3
  have k3 := row3_cells H39.out
  have k9 := row3_cells H99.out
  have k11 := row3_cells H119.out
  have k13 := row3_cells H139.out
  have k15 := row3_cells H159.out
  clear HW8 H38 H98 H118 H138 hb9
  by_cases hR : (0 ≤ n ∧ n ≤ 1000000 ∧ 1 ≤ d ∧ d ≤ 1000000 ∧ 0 ≤ r ∧ r ≤ d - 1)
  · go_wp2_with fail
    refine (rate14' _ _ _ true (decide_eq_true hR) _).mono ?_
    rintro e w10 ⟨rfl, hb10⟩
    have HW10 : Hid (Below w1.heap.size w1 w10) := HW9.out.trans (hb10.mono HW9.out.size)
    clear hb10 HW9 hR
    go_wp2
    go_ret
    exact ⟨rfl, HW10.out⟩
  · obtain ⟨e1, e2⟩ := HN.out hR
    go_wp2_with fail
    refine (rate14' _ _ _ false (decide_eq_false hR) _).mono ?_
    rintro e w10 ⟨rfl, hb10⟩
    have HW10 : Hid (Below w1.heap.size w1 w10) := HW9.out.trans (hb10.mono HW9.out.size)
    clear k3 k9 k11 k13 k15
    have k3 := row3_cells (row3_after H39.out hb10)
    have k11 := row3_cells (row3_after H119.out hb10)
    clear hb10 HW9 hR H39 H99 H119 H139 H159
    go_wp2
    go_ret
    exact ⟨rfl, HW10.out⟩
end Go.Proofs.Ytcjidlbpkijmnab
