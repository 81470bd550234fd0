/-
  Products that stay: the walk of the law over bytes that are not too many.
-/
import Derived.Test.YtcjidlbpkijmnaaSumsIn
namespace Go.Proofs.Ytcjidlbpkijmnaa
open Go.RowKit Go.PlainAid
set_option linter.unusedVariables false

theorem mul12' (a b S : Int) (h : mulS a b = S) (w : World) : Calls Try.prog 12 #[.int .i64 a, .int .i64 b] w fun e w' => e = .returned (.int .i64 S) ∧ Below w.heap.size w w' := by
  subst h
  exact mul12 a b w
theorem smul13' (a b S : Int) (h : mulS a b = S) (w : World) : Calls Try.prog 13 #[.int .i64 a, .int .i64 b] w fun e w' => e = .returned (.int .i64 S) ∧ w' = w := by
  subst h
  exact smul13 a b w
theorem mulS_small {a b : Int} (ha : -5000 ≤ a ∧ a ≤ 5000) (hb : -600000 ≤ b ∧ b ≤ 600000) : mulS a b = wrap64 (a * b) := by
  have h : -3000000000 ≤ a * b ∧ a * b ≤ 3000000000 := by
    have h1 : (5000 - a) * (600000 - b) ≥ 0 := Int.mul_nonneg (by omega) (by omega)
    have h2 : (5000 + a) * (600000 + b) ≥ 0 := Int.mul_nonneg (by omega) (by omega)
    have h3 : (5000 - a) * (600000 + b) ≥ 0 := Int.mul_nonneg (by omega) (by omega)
    have h4 : (5000 + a) * (600000 - b) ≥ 0 := Int.mul_nonneg (by omega) (by omega)
    have e1 : (5000 - a) * (600000 - b) = 3000000000 - 5000 * b - 600000 * a + a * b := by
      rw [Int.sub_mul, Int.mul_sub, Int.mul_sub]; omega
    have e2 : (5000 + a) * (600000 + b) = 3000000000 + 5000 * b + 600000 * a + a * b := by
      rw [Int.add_mul, Int.mul_add, Int.mul_add]; omega
    have e3 : (5000 - a) * (600000 + b) = 3000000000 + 5000 * b - 600000 * a - a * b := by
      rw [Int.sub_mul, Int.mul_add, Int.mul_add]; omega
    have e4 : (5000 + a) * (600000 - b) = 3000000000 - 5000 * b + 600000 * a - a * b := by
      rw [Int.add_mul, Int.mul_sub, Int.mul_sub]; omega
    rw [e1] at h1; rw [e2] at h2; rw [e3] at h3; rw [e4] at h4
    generalize a * b = z at *
    omega
  unfold mulS
  rw [sat_in (n := a) (by omega) (by omega), sat_in (n := b) (by omega) (by omega), sat_in (by omega) (by omega), wrap64_in (by omega) (by omega)]
theorem mulS_none (x : Int) : mulS x 0 = 0 := by
  rw [mulS_comm]
  exact mulS_zero (by decide)

set_option maxHeartbeats 1000000 in
theorem products_in (a0 : Option Addr) (len0 cap0 : Nat) (hb : len0 ≤ 1048576) (w : World) (hcode : CodeOk w w.heap.size a0 len0) :
    Calls Try.prog 4 #[.slice a0 len0 cap0] w fun e w' => e = .returned (.bool true) ∧ Below w.heap.size w w' := by
  have HC : Hid (CodeOk w w.heap.size a0 len0) := hcode
  clear hcode
  go_enter Try.func4, Try.ntmps4
  go_wp2_with fail
  refine (big5 a0 len0 cap0 (by omega) _).mono ?_
  rintro e w1 ⟨rfl, rfl⟩
  rw [decide_eq_false (by omega)]
  go_wp2_with fail
  refine (places7 w1.heap.size a0 len0 cap0 _ HC.out (Nat.le_refl _)).mono ?_
  rintro e w3 ⟨g, cp, p0, p1, p2, p3, rfl, r0, r1, r2, r3, hg, c0, c1, c2, c3, hg3, hb3⟩
  have HC3 : Hid (CodeOk w3 w1.heap.size a0 len0) := code_below HC.out hb3
  have HW3 : Hid (Below w1.heap.size w1 w3) := hb3
  clear HC hb3 hg hg3 c2 c3 r2 r3
  have HS : Hid (mulS (p0 - 5000) ((p1 - 5000) * 101) = wrap64 ((p0 - 5000) * ((p1 - 5000) * 101))) := mulS_small (by omega) (by omega)
  go_wp2_with fail
  refine (draw11 w1.heap.size a0 len0 cap0 _ HC3.out HW3.out.size).mono ?_
  rintro e w5 ⟨x, y, rfl, hx, hy, hb5⟩
  have HW5 : Hid (Below w1.heap.size w1 w5) := HW3.out.trans (hb5.mono HW3.out.size)
  clear HC3 HW3 hb5 c0 c1
  obtain ⟨t, ht⟩ : ∃ t, mulS x y = t := ⟨_, rfl⟩
  have HT : Hid (mulS x y = t) := ht
  have HT' : Hid (mulS y x = t) := (mulS_comm y x).trans ht
  have tr : -1000000000000 ≤ t ∧ t ≤ 1000000000000 := by rw [← ht]; exact sat_range _
  clear ht
  go_wp2_with fail
  refine (mul12' _ _ t HT.out _).mono ?_
  rintro e w6 ⟨rfl, hb6⟩
  have HW6 : Hid (Below w1.heap.size w1 w6) := HW5.out.trans (hb6.mono HW5.out.size)
  clear HW5 hb6
  go_wp2_with fail
  refine (mul12' _ _ _ HS.out _).mono ?_
  rintro e w7 ⟨rfl, hb7⟩
  have HW7 : Hid (Below w1.heap.size w1 w7) := HW6.out.trans (hb7.mono HW6.out.size)
  clear HW6 hb7
  go_wp2_with fail
  refine (mul12' _ _ t HT'.out _).mono ?_
  rintro e w9 ⟨rfl, hb9⟩
  have HW9 : Hid (Below w1.heap.size w1 w9) := HW7.out.trans (hb9.mono HW7.out.size)
  clear HW7 hb9
  go_wp2_with fail
  refine (smul13' _ _ t HT.out _).mono ?_
  rintro e w8 ⟨rfl, rfl⟩
  go_wp2_with fail
  refine (mul12' _ _ 0 (mulS_none _) _).mono ?_
  rintro e w10 ⟨rfl, hb10⟩
  have HW10 : Hid (Below w1.heap.size w1 w10) := HW9.out.trans (hb10.mono HW9.out.size)
  clear HW9 hb10
  go_wp2_with fail
  refine (mul12' _ _ 1000000000000 (by decide) _).mono ?_
  rintro e w11 ⟨rfl, hb11⟩
  have HW11 : Hid (Below w1.heap.size w1 w11) := HW10.out.trans (hb11.mono HW10.out.size)
  clear HW10 hb11
  go_wp2_with fail
  refine (mul12' _ _ (-1000000000000) (by decide) _).mono ?_
  rintro e w12 ⟨rfl, hb12⟩
  have HW12 : Hid (Below w1.heap.size w1 w12) := HW11.out.trans (hb12.mono HW11.out.size)
  clear HW11 hb12
  go_wp2
  go_ret
  exact ⟨rfl, HW12.out⟩
end Go.Proofs.Ytcjidlbpkijmnaa
