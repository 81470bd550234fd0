/-
  Products that stay: the contracts of the program's and of the specification's.
-/
import Derived.Test.YtcjidlbpkijmnaaBase
namespace Go.Proofs.Ytcjidlbpkijmnaa
open Go.RowKit Go.PlainAid
set_option linter.unusedVariables false

def absI (n : Int) : Int := max n (-n)
def mulS (a b : Int) : Int := sat (sat a * sat b)

theorem size23 (n : Int) (h0 : -1000000000000 ≤ n) (h1 : n ≤ 1000000000000) (w : World) : Calls Try.prog 23 #[.int .i64 n] w fun e w' => e = .returned (.int .i64 (absI n)) ∧ w' = w := by
  go_enter Try.func23, Try.ntmps23
  by_cases h : n < -n
  · go_wp2
    go_ret
    exact ⟨by rw [show absI n = -n by unfold absI; omega]; rfl, rfl⟩
  · go_wp2
    go_ret
    exact ⟨by rw [show absI n = n by unfold absI; omega]; rfl, rfl⟩

theorem wrap64_in {n : Int} (h0 : -9223372036854775808 ≤ n) (h1 : n ≤ 9223372036854775807) : wrap64 n = n := by
  rw [← i64_is]
  exact wrap_in h0 h1

theorem absI_cases (n : Int) : (0 ≤ n ∧ absI n = n) ∨ (n < 0 ∧ absI n = -n) := by
  unfold absI
  omega

theorem quo_le {p q : Int} (hp : 0 < p) : q ≤ 1000000000000 / p ↔ q * p ≤ 1000000000000 := Int.le_ediv_iff_mul_le hp

theorem mul_small {x y : Int} (hx : 1 ≤ absI x) (h : absI y ≤ 1000000000000 / absI x) : wrap64 (x * y) = sat (x * y) := by
  have h1 := (quo_le (p := absI x) (q := absI y) (by omega)).1 h
  have h2 : -1000000000000 ≤ x * y ∧ x * y ≤ 1000000000000 := by
    rcases absI_cases x with ⟨a0, a1⟩ | ⟨a0, a1⟩ <;> rcases absI_cases y with ⟨b0, b1⟩ | ⟨b0, b1⟩ <;> rw [a1, b1] at h1
    · have := Int.mul_nonneg a0 b0
      rw [Int.mul_comm] at h1
      omega
    · rw [Int.neg_mul, Int.mul_comm] at h1
      have := Int.mul_nonpos_of_nonneg_of_nonpos a0 (Int.le_of_lt b0)
      omega
    · rw [Int.mul_neg, Int.mul_comm] at h1
      have := Int.mul_nonpos_of_nonpos_of_nonneg (Int.le_of_lt a0) b0
      omega
    · rw [Int.neg_mul_neg, Int.mul_comm] at h1
      have := Int.mul_pos_of_neg_of_neg a0 b0
      omega
  rw [sat_in h2.1 h2.2, wrap64_in (by omega) (by omega)]

theorem mul_big {x y : Int} (hx : 1 ≤ absI x) (h : 1000000000000 / absI x < absI y) : sat (x * y) = if (decide (x < 0) == decide (y < 0)) = true then 1000000000000 else -1000000000000 := by
  have h1 : ¬ absI y * absI x ≤ 1000000000000 := fun k => by
    have := (quo_le (p := absI x) (q := absI y) (by omega)).2 k
    omega
  rcases absI_cases x with ⟨a0, a1⟩ | ⟨a0, a1⟩ <;> rcases absI_cases y with ⟨b0, b1⟩ | ⟨b0, b1⟩ <;> rw [a1, b1] at h1
  · rw [if_pos (by simp [decide_eq_false (show ¬ x < 0 by omega), decide_eq_false (show ¬ y < 0 by omega)])]
    rw [Int.mul_comm] at h1
    exact sat_hi (by omega)
  · rw [if_neg (by simp [decide_eq_false (show ¬ x < 0 by omega), decide_eq_true b0])]
    rw [Int.neg_mul, Int.mul_comm] at h1
    exact sat_lo (by omega)
  · rw [if_neg (by simp [decide_eq_true a0, decide_eq_false (show ¬ y < 0 by omega)])]
    rw [Int.mul_neg, Int.mul_comm] at h1
    exact sat_lo (by omega)
  · rw [if_pos (by simp [decide_eq_true a0, decide_eq_true b0])]
    rw [Int.neg_mul_neg, Int.mul_comm] at h1
    exact sat_hi (by omega)

theorem mulS_zero {a b : Int} (h : sat a = 0) : mulS a b = 0 := by
  unfold mulS
  rw [h, Int.zero_mul]
  rfl

theorem mulS_comm (a b : Int) : mulS a b = mulS b a := by
  unfold mulS
  rw [Int.mul_comm]

theorem mul12 (a b : Int) (w : World) : Calls Try.prog 12 #[.int .i64 a, .int .i64 b] w fun e w' => e = .returned (.int .i64 (mulS a b)) ∧ Below w.heap.size w w' := by
  have hx := sat_range a
  have hy := sat_range b
  go_enter Try.func12, Try.ntmps12
  go_wp2_with fail
  refine (bounds19 _).mono ?_
  rintro e w1 ⟨rfl, hb1⟩
  have s1 := hb1.size
  go_wp2_with fail
  have hb0 := hb1.alloc s1 (.cells #[.int .i64 (-1000000000000), .int .i64 1000000000000] 39)
  go_region_held3 (fun w' => w'.cell? ⟨w1.heap.size, 0, none⟩ = some (.int .i64 (-1000000000000)) ∧ w'.cell? ⟨w1.heap.size, 1, none⟩ = some (.int .i64 1000000000000) ∧ w1.heap.size < w'.heap.size ∧ w.heap.size ≤ w'.heap.size ∧ Below w.heap.size w w') (first | (refine big_keep (by assumption) ?_; assumption) | (refine ⟨by simp, by simp, by simp, by simp; omega, hb0.drew⟩)) (first | (go_at_call 20; refine (intoB20 _ _).mono ?_; rintro e w2 ⟨rfl, hb2⟩))
  rename_i w3 hb3 HH
  have hbw := HH.2.2.2.2
  clear HH hb3 hb0
  by_cases hz : sat a = 0
  · go_wp2
    go_ret
    exact ⟨by rw [mulS_zero hz]; rfl, hbw⟩
  · have hA : 1 ≤ absI (sat a) := by unfold absI; omega
    have hA1 : absI (sat a) ≤ 1000000000000 := by unfold absI; omega
    have hB : 0 ≤ absI (sat b) := by unfold absI; omega
    have hE : (sat a == 0) = false := by simp [hz]
    have hN : ¬ absI (sat a) = 0 := by omega
    by_cases hq : absI (sat b) ≤ 1000000000000 / absI (sat a)
    · have HM : Hid (wrap64 (sat a * sat b) = mulS a b) := mul_small hA hq
      go_wp2_with fail
      refine (size23 (sat b) hy.1 hy.2 _).mono ?_
      rintro e w4 ⟨rfl, rfl⟩
      go_wp2_with fail
      refine (size23 (sat a) hx.1 hx.2 _).mono ?_
      rintro e w5 ⟨rfl, rfl⟩
      go_wp2
      go_ret
      exact ⟨by rw [← HM.out]; rfl, hbw⟩
    · have hq' : 1000000000000 / absI (sat a) < absI (sat b) := by omega
      by_cases hs : (decide (sat a < 0) == decide (sat b < 0)) = true
      · have HM : Hid (1000000000000 = mulS a b) := ((mul_big hA hq').trans (if_pos hs)).symm
        go_wp2_with fail
        refine (size23 (sat b) hy.1 hy.2 _).mono ?_
        rintro e w4 ⟨rfl, rfl⟩
        go_wp2_with fail
        refine (size23 (sat a) hx.1 hx.2 _).mono ?_
        rintro e w5 ⟨rfl, rfl⟩
        go_wp2
        go_ret
        exact ⟨by rw [← HM.out]; rfl, hbw⟩
      · have HM : Hid (-1000000000000 = mulS a b) := ((mul_big hA hq').trans (if_neg hs)).symm
        have hs' : (decide (sat a < 0) == decide (sat b < 0)) = false := by simpa using hs
        go_wp2_with fail
        refine (size23 (sat b) hy.1 hy.2 _).mono ?_
        rintro e w4 ⟨rfl, rfl⟩
        go_wp2_with fail
        refine (size23 (sat a) hx.1 hx.2 _).mono ?_
        rintro e w5 ⟨rfl, rfl⟩
        go_wp2
        go_ret
        exact ⟨by rw [← HM.out]; rfl, hbw⟩

theorem into22' (n x : Int) (h : sat n = x) (w : World) : Calls Try.prog 22 #[.int .i64 n] w fun e w' => e = .returned (.int .i64 x) ∧ w' = w := by
  subst h
  exact into22 n w

theorem smul_pp (a b p q : Int) (hp : 1 ≤ p) (hp1 : p ≤ 1000000000000) (hq : 1 ≤ q) (hq1 : q ≤ 1000000000000) (ha : sat a = p) (hb : sat b = q) (w : World) : Calls Try.prog 13 #[.int .i64 a, .int .i64 b] w fun e w' => e = .returned (.int .i64 (mulS a b)) ∧ w' = w := by
  have HMS : mulS a b = sat (q * p) := by unfold mulS; rw [ha, hb, Int.mul_comm]
  have hax : absI p = p := by unfold absI; omega
  have hay : absI q = q := by unfold absI; omega
  have hQ : 1 ≤ absI q := by omega
  have d1 : ¬ q = 0 := by omega
  have d2 : ¬ p = 0 := by omega
  have e1 : (p == 0) = false := by simp only [beq_eq_false_iff_ne, ne_eq]; omega
  have e2 : (q == 0) = false := by simp only [beq_eq_false_iff_ne, ne_eq]; omega
  have f1 : decide (p < 0) = false := decide_eq_false (by omega)
  have f2 : decide (q < 0) = false := decide_eq_false (by omega)
  by_cases h : p ≤ 1000000000000 / q
  · have HV : Hid (∀ z, z = p * q → wrap64 z = mulS a b) := by
      intro z hz
      rw [HMS, hz, Int.mul_comm]
      exact mul_small hQ (by rw [hax, hay]; exact h)
    clear HMS hax hay hQ
    have h' : ¬ 1000000000000 / q < p := by omega
    go_enter Try.func13, Try.ntmps13
    go_wp2_with fail
    refine (into22' a (p) ha _).mono ?_
    rintro e w1 ⟨rfl, rfl⟩
    go_wp2_with fail
    refine (into22' b (q) hb _).mono ?_
    rintro e w1 ⟨rfl, rfl⟩
    clear ha hb
    go_wp2
    go_ret
    exact ⟨congrArg Ending.returned (congrArg (Value.int .i64) (HV.out _ (by simp))), rfl⟩
  · have h' : 1000000000000 / q < p := by omega
    have HV : Hid (1000000000000 = mulS a b) := by
      rw [HMS, mul_big hQ (by rw [hax, hay]; exact h')]
      show 1000000000000 = _
      rw [if_pos (by rw [f2, f1]; decide)]
    clear HMS hax hay hQ
    go_enter Try.func13, Try.ntmps13
    go_wp2_with fail
    refine (into22' a (p) ha _).mono ?_
    rintro e w1 ⟨rfl, rfl⟩
    go_wp2_with fail
    refine (into22' b (q) hb _).mono ?_
    rintro e w1 ⟨rfl, rfl⟩
    clear ha hb
    go_wp2
    go_ret
    exact ⟨by rw [← HV.out]; rfl, rfl⟩

theorem smul_pn (a b p q : Int) (hp : 1 ≤ p) (hp1 : p ≤ 1000000000000) (hq : 1 ≤ q) (hq1 : q ≤ 1000000000000) (ha : sat a = p) (hb : sat b = -q) (w : World) : Calls Try.prog 13 #[.int .i64 a, .int .i64 b] w fun e w' => e = .returned (.int .i64 (mulS a b)) ∧ w' = w := by
  have HMS : mulS a b = sat ((-q) * p) := by unfold mulS; rw [ha, hb, Int.mul_comm]
  have hax : absI p = p := by unfold absI; omega
  have hay : absI (-q) = q := by unfold absI; omega
  have hQ : 1 ≤ absI (-q) := by omega
  have d1 : ¬ q = 0 := by omega
  have d2 : ¬ p = 0 := by omega
  have e1 : (p == 0) = false := by simp only [beq_eq_false_iff_ne, ne_eq]; omega
  have e2 : (-q == 0) = false := by simp only [beq_eq_false_iff_ne, ne_eq]; omega
  have f1 : decide (p < 0) = false := decide_eq_false (by omega)
  by_cases h : p ≤ 1000000000000 / q
  · have HV : Hid (∀ z, z = p * (-q) → wrap64 z = mulS a b) := by
      intro z hz
      rw [HMS, hz, Int.mul_comm]
      exact mul_small hQ (by rw [hax, hay]; exact h)
    clear HMS hax hay hQ
    have h' : ¬ 1000000000000 / q < p := by omega
    go_enter Try.func13, Try.ntmps13
    go_wp2_with fail
    refine (into22' a (p) ha _).mono ?_
    rintro e w1 ⟨rfl, rfl⟩
    go_wp2_with fail
    refine (into22' b (-q) hb _).mono ?_
    rintro e w1 ⟨rfl, rfl⟩
    clear ha hb
    go_wp2
    go_ret
    exact ⟨congrArg Ending.returned (congrArg (Value.int .i64) (HV.out _ (by simp))), rfl⟩
  · have h' : 1000000000000 / q < p := by omega
    have HV : Hid (-1000000000000 = mulS a b) := by
      rw [HMS, mul_big hQ (by rw [hax, hay]; exact h')]
      show -1000000000000 = _
      rw [if_neg (by rw [decide_eq_true (show -q < 0 by omega), f1]; decide)]
    clear HMS hax hay hQ
    go_enter Try.func13, Try.ntmps13
    go_wp2_with fail
    refine (into22' a (p) ha _).mono ?_
    rintro e w1 ⟨rfl, rfl⟩
    go_wp2_with fail
    refine (into22' b (-q) hb _).mono ?_
    rintro e w1 ⟨rfl, rfl⟩
    clear ha hb
    go_wp2
    go_ret
    exact ⟨by rw [← HV.out]; rfl, rfl⟩

theorem smul_np (a b p q : Int) (hp : 1 ≤ p) (hp1 : p ≤ 1000000000000) (hq : 1 ≤ q) (hq1 : q ≤ 1000000000000) (ha : sat a = -p) (hb : sat b = q) (w : World) : Calls Try.prog 13 #[.int .i64 a, .int .i64 b] w fun e w' => e = .returned (.int .i64 (mulS a b)) ∧ w' = w := by
  have HMS : mulS a b = sat (q * (-p)) := by unfold mulS; rw [ha, hb, Int.mul_comm]
  have hax : absI (-p) = p := by unfold absI; omega
  have hay : absI q = q := by unfold absI; omega
  have hQ : 1 ≤ absI q := by omega
  have d1 : ¬ q = 0 := by omega
  have d2 : ¬ p = 0 := by omega
  have e1 : (-p == 0) = false := by simp only [beq_eq_false_iff_ne, ne_eq]; omega
  have e2 : (q == 0) = false := by simp only [beq_eq_false_iff_ne, ne_eq]; omega
  have f2 : decide (q < 0) = false := decide_eq_false (by omega)
  by_cases h : p ≤ 1000000000000 / q
  · have HV : Hid (∀ z, z = (-p) * q → wrap64 z = mulS a b) := by
      intro z hz
      rw [HMS, hz, Int.mul_comm]
      exact mul_small hQ (by rw [hax, hay]; exact h)
    clear HMS hax hay hQ
    have h' : ¬ 1000000000000 / q < p := by omega
    go_enter Try.func13, Try.ntmps13
    go_wp2_with fail
    refine (into22' a (-p) ha _).mono ?_
    rintro e w1 ⟨rfl, rfl⟩
    go_wp2_with fail
    refine (into22' b (q) hb _).mono ?_
    rintro e w1 ⟨rfl, rfl⟩
    clear ha hb
    go_wp2
    go_ret
    exact ⟨congrArg Ending.returned (congrArg (Value.int .i64) (HV.out _ (by simp))), rfl⟩
  · have h' : 1000000000000 / q < p := by omega
    have HV : Hid (-1000000000000 = mulS a b) := by
      rw [HMS, mul_big hQ (by rw [hax, hay]; exact h')]
      show -1000000000000 = _
      rw [if_neg (by rw [f2, decide_eq_true (show -p < 0 by omega)]; decide)]
    clear HMS hax hay hQ
    go_enter Try.func13, Try.ntmps13
    go_wp2_with fail
    refine (into22' a (-p) ha _).mono ?_
    rintro e w1 ⟨rfl, rfl⟩
    go_wp2_with fail
    refine (into22' b (q) hb _).mono ?_
    rintro e w1 ⟨rfl, rfl⟩
    clear ha hb
    go_wp2
    go_ret
    exact ⟨by rw [← HV.out]; rfl, rfl⟩

theorem smul_nn (a b p q : Int) (hp : 1 ≤ p) (hp1 : p ≤ 1000000000000) (hq : 1 ≤ q) (hq1 : q ≤ 1000000000000) (ha : sat a = -p) (hb : sat b = -q) (w : World) : Calls Try.prog 13 #[.int .i64 a, .int .i64 b] w fun e w' => e = .returned (.int .i64 (mulS a b)) ∧ w' = w := by
  have HMS : mulS a b = sat ((-q) * (-p)) := by unfold mulS; rw [ha, hb, Int.mul_comm]
  have hax : absI (-p) = p := by unfold absI; omega
  have hay : absI (-q) = q := by unfold absI; omega
  have hQ : 1 ≤ absI (-q) := by omega
  have d1 : ¬ q = 0 := by omega
  have d2 : ¬ p = 0 := by omega
  have e1 : (-p == 0) = false := by simp only [beq_eq_false_iff_ne, ne_eq]; omega
  have e2 : (-q == 0) = false := by simp only [beq_eq_false_iff_ne, ne_eq]; omega
  by_cases h : p ≤ 1000000000000 / q
  · have HV : Hid (∀ z, z = (-p) * (-q) → wrap64 z = mulS a b) := by
      intro z hz
      rw [HMS, hz, Int.mul_comm]
      exact mul_small hQ (by rw [hax, hay]; exact h)
    clear HMS hax hay hQ
    have h' : ¬ 1000000000000 / q < p := by omega
    go_enter Try.func13, Try.ntmps13
    go_wp2_with fail
    refine (into22' a (-p) ha _).mono ?_
    rintro e w1 ⟨rfl, rfl⟩
    go_wp2_with fail
    refine (into22' b (-q) hb _).mono ?_
    rintro e w1 ⟨rfl, rfl⟩
    clear ha hb
    go_wp2
    go_ret
    exact ⟨congrArg Ending.returned (congrArg (Value.int .i64) (HV.out _ (by simp))), rfl⟩
  · have h' : 1000000000000 / q < p := by omega
    have HV : Hid (1000000000000 = mulS a b) := by
      rw [HMS, mul_big hQ (by rw [hax, hay]; exact h')]
      show 1000000000000 = _
      rw [if_pos (by rw [decide_eq_true (show -q < 0 by omega), decide_eq_true (show -p < 0 by omega)]; decide)]
    clear HMS hax hay hQ
    go_enter Try.func13, Try.ntmps13
    go_wp2_with fail
    refine (into22' a (-p) ha _).mono ?_
    rintro e w1 ⟨rfl, rfl⟩
    go_wp2_with fail
    refine (into22' b (-q) hb _).mono ?_
    rintro e w1 ⟨rfl, rfl⟩
    clear ha hb
    go_wp2
    go_ret
    exact ⟨by rw [← HV.out]; rfl, rfl⟩

theorem smul13 (a b : Int) (w : World) : Calls Try.prog 13 #[.int .i64 a, .int .i64 b] w fun e w' => e = .returned (.int .i64 (mulS a b)) ∧ w' = w := by
  have hx := sat_range a
  have hy := sat_range b
  by_cases hz : sat a = 0
  · have HM : Hid (0 = mulS a b) := (mulS_zero hz).symm
    obtain ⟨y, hyb⟩ : ∃ y, sat b = y := ⟨_, rfl⟩
    rw [hyb] at hy
    go_enter Try.func13, Try.ntmps13
    go_wp2_with fail
    refine (into22' a 0 hz _).mono ?_
    rintro e w1 ⟨rfl, rfl⟩
    go_wp2_with fail
    refine (into22' b y hyb _).mono ?_
    rintro e w1 ⟨rfl, rfl⟩
    go_wp2
    go_ret
    exact ⟨by rw [← HM.out]; rfl, rfl⟩
  · by_cases hz2 : sat b = 0
    · have HM : Hid (0 = mulS a b) := by rw [mulS_comm]; exact (mulS_zero hz2).symm
      obtain ⟨x, hxa⟩ : ∃ x, sat a = x := ⟨_, rfl⟩
      rw [hxa] at hx hz
      go_enter Try.func13, Try.ntmps13
      go_wp2_with fail
      refine (into22' a x hxa _).mono ?_
      rintro e w1 ⟨rfl, rfl⟩
      go_wp2_with fail
      refine (into22' b 0 hz2 _).mono ?_
      rintro e w1 ⟨rfl, rfl⟩
      go_wp2
      go_ret
      exact ⟨by rw [← HM.out]; rfl, rfl⟩
    · by_cases s1 : sat a < 0
      · by_cases s2 : sat b < 0
        · exact smul_nn a b (-sat a) (-sat b) (by omega) (by omega) (by omega) (by omega) (by omega) (by omega) w
        · exact smul_np a b (-sat a) (sat b) (by omega) (by omega) (by omega) (by omega) (by omega) (by omega) w
      · by_cases s2 : sat b < 0
        · exact smul_pn a b (sat a) (-sat b) (by omega) (by omega) (by omega) (by omega) (by omega) (by omega) w
        · exact smul_pp a b (sat a) (sat b) (by omega) (by omega) (by omega) (by omega) (by omega) (by omega) w
end Go.Proofs.Ytcjidlbpkijmnaa
