/-
  Rates: what so many steps give in all; the walk of the law over bytes that are not too many.
-/
import Derived.Test.YtcjidlbpkijmnaaRate
import Derived.Test.YtcjidlbpkijmnaaSumsIn
namespace Go.Proofs.Ytcjidlbpkijmnaa
open Go.RowKit Go.PlainAid
set_option linter.unusedVariables false

theorem run_sum {n d r : Int} (h : (0 ≤ n ∧ n ≤ 1000000 ∧ 1 ≤ d ∧ d ≤ 1000000 ∧ 0 ≤ r ∧ r ≤ d - 1)) (k : Nat) : runR n d r k = (r + (k : Int) * n) % d ∧ runS n d r k = (r + (k : Int) * n) / d := by
  obtain ⟨a1, a2, a3, a4, a5, a6⟩ := h
  induction k with
  | zero =>
    show r = (r + 0 * n) % d ∧ 0 = (r + 0 * n) / d
    rw [Int.zero_mul, Int.add_zero]
    exact ⟨(Int.emod_eq_of_lt a5 (by omega)).symm, (Int.ediv_eq_zero_of_lt a5 (by omega)).symm⟩
  | succ k ih =>
    obtain ⟨h1, h2⟩ := ih
    have e1 : (r + ((k + 1 : Nat) : Int) * n) = (r + (k : Int) * n) + n := by
      rw [show ((k + 1 : Nat) : Int) = (k : Int) + 1 from rfl, Int.add_mul, Int.one_mul]
      omega
    have m0 := Int.emod_nonneg (r + (k : Int) * n) (show d ≠ 0 by omega)
    have m1 := Int.emod_lt_of_pos (r + (k : Int) * n) (show 0 < d by omega)
    have hq := Int.emod_add_mul_ediv (r + (k : Int) * n) d
    have hR : (0 ≤ n ∧ n ≤ 1000000 ∧ 1 ≤ d ∧ d ≤ 1000000 ∧ 0 ≤ (runR n d r k) ∧ (runR n d r k) ≤ d - 1) := by rw [h1]; exact ⟨a1, a2, a3, a4, m0, by omega⟩
    show stepR n d (runR n d r k) = _ ∧ runS n d r k + stepO n d (runR n d r k) = _
    rw [show stepR n d (runR n d r k) = (runR n d r k + n) % d from if_pos hR, show stepO n d (runR n d r k) = (runR n d r k + n) / d from if_pos hR]
    rw [h1, h2, e1]
    generalize r + (k : Int) * n = X at *
    constructor
    · rw [Int.emod_add_emod]
    · have : X + n = (X % d + n) + d * (X / d) := by omega
      rw [this, Int.add_mul_ediv_left _ _ (show d ≠ 0 by omega)]
      omega

theorem run19' (n d r m R O : Int) (hR : runR n d r (cnt m) = R) (hO : runS n d r (cnt m) = O) (w : World) : Calls Try.prog 14 #[.agg #[.int .i64 n, .int .i64 d, .int .i64 r], .int .i64 m] w fun e w' => e = .returned (.tuple #[.agg #[.int .i64 n, .int .i64 d, .int .i64 R], .int .i64 O]) ∧ Below w.heap.size w w' := by
  have h := run19 n d r m w
  rw [hR, hO] at h
  exact h

theorem rate14' (n d r : Int) (h : (0 ≤ n ∧ n ≤ 1000000 ∧ 1 ≤ d ∧ d ≤ 1000000 ∧ 0 ≤ r ∧ r ≤ d - 1)) (w : World) : Calls Try.prog 15 #[.agg #[.int .i64 n, .int .i64 d, .int .i64 r]] w fun e w' => e = .returned (.bool true) ∧ Below w.heap.size w w' := by
  have k := rate14 n d r w
  rw [show rateOk n d r = true from decide_eq_true h] at k
  exact k

/-- two rates that lie in memory -/
def Two30 (w : World) (A B : Nat) (n d r R : Int) (W : World) : Prop :=
  W.cell? ⟨A, 0, none⟩ = some (.int .i64 n) ∧ W.cell? ⟨A, 1, none⟩ = some (.int .i64 d) ∧ W.cell? ⟨A, 2, none⟩ = some (.int .i64 r) ∧ W.cell? ⟨B, 0, none⟩ = some (.int .i64 n) ∧ W.cell? ⟨B, 1, none⟩ = some (.int .i64 d) ∧ W.cell? ⟨B, 2, none⟩ = some (.int .i64 R) ∧ A < W.heap.size ∧ B < W.heap.size ∧ Below w.heap.size w W

theorem two30_of {w W : World} {A B : Nat} {n d r R : Int} (hA : W.heap[A]? = some (.cells #[.int .i64 n, .int .i64 d, .int .i64 r] 30)) (hB : W.heap[B]? = some (.cells #[.int .i64 n, .int .i64 d, .int .i64 R] 30)) (b : Below w.heap.size w W.drew) : Two30 w A B n d r R W.drew := by
  obtain ⟨a0, a1, a2, _⟩ := row3_cells hA
  obtain ⟨b0, b1, b2, _⟩ := row3_cells hB
  exact ⟨a0, a1, a2, b0, b1, b2, row_lt hA, row_lt hB, b⟩

theorem two30_keep {w W W' : World} {A B : Nat} {n d r R : Int} (hb : Below W.heap.size W W') (h : Two30 w A B n d r R W) : Two30 w A B n d r R W' := by
  obtain ⟨a0, a1, a2, b0, b1, b2, l1, l2, b⟩ := h
  have := hb.size
  exact ⟨(hb.cell (p := ⟨A, 0, none⟩) l1).trans a0, (hb.cell (p := ⟨A, 1, none⟩) l1).trans a1, (hb.cell (p := ⟨A, 2, none⟩) l1).trans a2, (hb.cell (p := ⟨B, 0, none⟩) l2).trans b0, (hb.cell (p := ⟨B, 1, none⟩) l2).trans b1, (hb.cell (p := ⟨B, 2, none⟩) l2).trans b2, by omega, by omega, b.trans (hb.mono b.size)⟩

set_option maxHeartbeats 1000000 in
theorem rates_in (a0 : Option Addr) (len0 cap0 : Nat) (hb : len0 ≤ 1048576) (w : World) (hcode : CodeOk w w.heap.size a0 len0) :
    Calls Try.prog 5 #[.slice a0 len0 cap0] w fun e w' => e = .returned (.bool true) ∧ Below w.heap.size w w' := by
  have HC : Hid (CodeOk w w.heap.size a0 len0) := hcode
  clear hcode
  go_enter Try.func5, Try.ntmps5
  go_wp2_with fail
  refine (big5 a0 len0 cap0 (by omega) _).mono ?_
  rintro e w1 ⟨rfl, rfl⟩
  rw [decide_eq_false (by omega)]
  go_wp2_with fail
  refine (places7 w1.heap.size a0 len0 cap0 _ HC.out (Nat.le_refl _)).mono ?_
  rintro e w3 ⟨g, cp, p0, p1, p2, p3, rfl, r0, r1, r2, r3, hg, c0, c1, c2, c3, hg3, hb3⟩
  have HW3 : Hid (Below w1.heap.size w1 w3) := hb3
  clear HC hb3
  obtain ⟨n, hn⟩ : ∃ n, p0 % 90 = n := ⟨_, rfl⟩
  obtain ⟨d, hd⟩ : ∃ d, 1 + p1 % 60 = d := ⟨_, rfl⟩
  obtain ⟨m, hm⟩ : ∃ m, p3 % 300 = m := ⟨_, rfl⟩
  have n0 : 0 ≤ n ∧ n ≤ 89 := by omega
  have d0 : 1 ≤ d ∧ d ≤ 60 := by omega
  have m0 : 0 ≤ m ∧ m ≤ 299 := by omega
  have dz : ¬ d = 0 := by omega
  obtain ⟨r, hr⟩ : ∃ r, p2 % d = r := ⟨_, rfl⟩
  have rr0 : 0 ≤ r := by rw [← hr]; exact Int.emod_nonneg _ dz
  have rr1 : r ≤ d - 1 := by have := Int.emod_lt_of_pos p2 (show 0 < d by omega); omega
  go_wp2_with fail
  go_region
  obtain ⟨W4, hW4⟩ : ∃ W, (w3.alloc (.cells #[.int .i64 n, .int .i64 d, .int .i64 0] 30)).drew = W := ⟨_, rfl⟩
  rw [hW4]
  have b4 : Below w3.heap.size w3 W4 := by rw [← hW4]; exact ((Below.refl _ _).alloc (Nat.le_refl _) _).drew
  have h4 : W4.heap[w3.heap.size]? = some (.cells #[.int .i64 n, .int .i64 d, .int .i64 0] 30) := by rw [← hW4]; exact heap_new _ _
  clear hW4
  have k4 := row3_cells h4
  have d2 : W4.cell? ⟨g, 2, none⟩ = some (.int .i64 p2) := (b4.cell (p := ⟨g, 2, none⟩) hg3).trans c2
  have ne : ¬ g = w3.heap.size := by omega
  have HH4 : Hid (W4.heap[w3.heap.size]? = _) := h4
  have HB4 : Hid (Below w3.heap.size w3 W4) := b4
  clear c0 c1 c2 b4 h4 hn hd r0 r1
  go_wp2_with fail
  go_region
  obtain ⟨W5, hW5⟩ : ∃ W, (W4.setCell ⟨w3.heap.size, 2, none⟩ (.int .i64 r)).drew = W := ⟨_, rfl⟩
  rw [hW5]
  have b5 : Below w3.heap.size w3 W5 := by rw [← hW5]; exact (HB4.out.setCell (Nat.le_refl _) _).drew
  have h5 : W5.heap[w3.heap.size]? = some (.cells #[.int .i64 n, .int .i64 d, .int .i64 r] 30) := by rw [← hW5]; exact set1_row HH4.out
  clear hW5 HH4 HB4 k4 d2 ne hr r2
  have k5 := row3_cells h5
  have d3 : W5.cell? ⟨g, 3, none⟩ = some (.int .i64 p3) := (b5.cell (p := ⟨g, 3, none⟩) hg3).trans c3
  have HW5 : Hid (Below w1.heap.size w1 W5) := HW3.out.trans (b5.mono HW3.out.size)
  have HH5 : Hid (W5.heap[w3.heap.size]? = _) := h5
  clear HW3 b5 h5 c3 hg hg3
  obtain ⟨R, HR⟩ : ∃ R, Hid (runR n d r (cnt m) = R) := ⟨_, rfl⟩
  obtain ⟨O, HO⟩ : ∃ O, Hid (runS n d r (cnt m) = O) := ⟨_, rfl⟩
  go_wp2_with fail
  refine (run19' _ _ _ _ _ _ HR.out HO.out _).mono ?_
  rintro e w6 ⟨rfl, hb6⟩
  have h6 := row3_after HH5.out hb6
  have HW6 : Hid (Below w1.heap.size w1 w6) := HW5.out.trans (hb6.mono HW5.out.size)
  clear HW5 HH5 hb6 k5 d3
  have HRt : (0 ≤ n ∧ n ≤ 1000000 ∧ 1 ≤ d ∧ d ≤ 1000000 ∧ 0 ≤ r ∧ r ≤ d - 1) := ⟨by omega, by omega, by omega, by omega, by omega, by omega⟩
  obtain ⟨M, hM⟩ : ∃ M, m * n = M := ⟨_, rfl⟩
  have M0 : 0 ≤ M ∧ M ≤ 30000 := by
    have h1 : 0 ≤ m * n := Int.mul_nonneg m0.1 n0.1
    have h2 : m * n ≤ 299 * 89 := Int.mul_le_mul m0.2 n0.2 n0.1 (by omega)
    omega
  have hcm : ((cnt m : Nat) : Int) = m := by unfold cnt; omega
  have hrs := run_sum HRt (cnt m)
  rw [hcm, hM, HR.out, HO.out] at hrs
  obtain ⟨hR, hO⟩ := hrs
  have hRr : (0 ≤ n ∧ n ≤ 1000000 ∧ 1 ≤ d ∧ d ≤ 1000000 ∧ 0 ≤ R ∧ R ≤ d - 1) := by
    have h1 := Int.emod_nonneg (r + M) dz
    have h2 := Int.emod_lt_of_pos (r + M) (show 0 < d by omega)
    exact ⟨by omega, by omega, by omega, by omega, by omega, by omega⟩
  have wM : wrap64 (m * n) = M := by rw [hM]; exact wrap64_in (by omega) (by omega)
  have wM' : IntKind.i64.wrap (m * n) = M := by rw [hM]; exact wrap_in (by omega) (by omega)
  have wM2 : wrap64 (p3 % 300 * n) = M := by rw [hm]; exact wM
  have wM3 : IntKind.i64.wrap (p3 % 300 * n) = M := by rw [hm]; exact wM'
  have HRt' : Hid ((0 ≤ n ∧ n ≤ 1000000 ∧ 1 ≤ d ∧ d ≤ 1000000 ∧ 0 ≤ r ∧ r ≤ d - 1)) := HRt
  have HRr' : Hid ((0 ≤ n ∧ n ≤ 1000000 ∧ 1 ≤ d ∧ d ≤ 1000000 ∧ 0 ≤ R ∧ R ≤ d - 1)) := hRr
  obtain ⟨X, hX⟩ : ∃ X, r + M = X := ⟨_, rfl⟩
  rw [hX] at hR hO
  have wX : IntKind.i64.wrap (r + M) = X := by rw [hX]; exact wrap_in (by omega) (by omega)
  have tq : X.tdiv d = O := by rw [hO]; exact Int.tdiv_eq_ediv_of_nonneg (by omega)
  have tr : X.tmod d = R := by rw [hR]; exact Int.tmod_eq_emod_of_nonneg (by omega)
  have O0 : 0 ≤ O ∧ O ≤ X := by rw [hO]; exact ⟨Int.ediv_nonneg (by omega) (by omega), Int.ediv_le_self _ (by omega)⟩
  have R0 : 0 ≤ R ∧ R ≤ 60 := by have := hRr.2.2.2.2; omega
  have wO : IntKind.i64.wrap O = O := wrap_in (by omega) (by omega)
  have wR : IntKind.i64.wrap R = R := wrap_in (by omega) (by omega)
  clear HRt hRr HR HO hcm hR hO hM hX
  have l6 := row_lt h6
  have hA7 := (Below.heap_alloc w6 (.cells #[.int .i64 n, .int .i64 d, .int .i64 R] 30) _ l6).trans h6
  have hB7 := heap_new w6 (.cells #[.int .i64 n, .int .i64 d, .int .i64 R] 30)
  have b7 := HW6.out.alloc HW6.out.size (.cells #[.int .i64 n, .int .i64 d, .int .i64 R] 30)
  have HS7 : Hid (Two30 w1 w3.heap.size w6.heap.size n d r R (w6.alloc (.cells #[.int .i64 n, .int .i64 d, .int .i64 R] 30)).drew) := two30_of hA7 hB7 b7.drew
  clear hA7 hB7 b7 HW6 h6
  go_wp2_with fail
  go_region_held3 (fun w' => w'.cell? ⟨w3.heap.size, 0, none⟩ = some (.int .i64 n) ∧ w'.cell? ⟨w3.heap.size, 1, none⟩ = some (.int .i64 d) ∧ w'.cell? ⟨w3.heap.size, 2, none⟩ = some (.int .i64 r) ∧ w'.cell? ⟨w6.heap.size, 0, none⟩ = some (.int .i64 n) ∧ w'.cell? ⟨w6.heap.size, 1, none⟩ = some (.int .i64 d) ∧ w'.cell? ⟨w6.heap.size, 2, none⟩ = some (.int .i64 R) ∧ w3.heap.size < w'.heap.size ∧ w6.heap.size < w'.heap.size ∧ Below w1.heap.size w1 w') (first | exact HS7.out | (refine two30_keep (by assumption) ?_; assumption)) (first | (go_at_call 15; refine (rate14' _ _ _ (by first | exact HRt'.out | exact HRr'.out) _).mono ?_; rintro e w2 ⟨rfl, hb2⟩))
  rename_i w7 hb7 HH
  have hbw := HH.2.2.2.2.2.2.2.2
  go_wp2
  go_ret
  exact ⟨rfl, hbw⟩
end Go.Proofs.Ytcjidlbpkijmnaa
