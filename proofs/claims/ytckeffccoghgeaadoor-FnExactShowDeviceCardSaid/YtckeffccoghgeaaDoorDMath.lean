/-
  Plain facts on decimal figures, of no program. No conditions.
-/
import Derived.Lib.ItoaNum
namespace Go.Proofs.YtckeffccoghgeaaDoor.Plain
open Go.Lib

/-- the byte of a figure -/
def fb (r : Nat) : UInt8 := UInt8.ofNat (48 + r)
/-- the figures of u ahead of those that stand already; none for 0 -/
def dig (u : Nat) (acc : List UInt8) : List UInt8 := if u = 0 then acc else decDigits u ++ acc
theorem dig_zero (acc : List UInt8) : dig 0 acc = acc := by unfold dig; rw [if_pos rfl]
theorem dig_step {u : Nat} (h : u ≠ 0) (acc : List UInt8) : dig (u / 10) (fb (u % 10) :: acc) = dig u acc := by
  unfold dig fb
  rw [if_neg h]
  by_cases h1 : u < 10
  · rw [if_pos (by omega), decDigits, dif_pos h1, Nat.mod_eq_of_lt h1]; rfl
  · rw [if_neg (by omega)]
    conv => rhs; rw [decDigits, dif_neg h1]
    simp
theorem dig_start {u : Nat} (h : u ≠ 0) : dig u [] = decDigits u := by
  unfold dig; rw [if_neg h]; simp
theorem pow_step {u j : Nat} (h : u < 10 ^ (20 - j)) (h0 : u ≠ 0) (hj : j ≤ 20) : j < 20 ∧ u / 10 < 10 ^ (20 - (j + 1)) := by
  by_cases hj' : j = 20
  · subst hj'; simp at h; omega
  · refine ⟨by omega, ?_⟩
    have e : 20 - j = (20 - (j + 1)) + 1 := by omega
    rw [e, Nat.pow_succ] at h
    omega
theorem pow_start {u : Nat} (h : u ≤ 9223372036854775808) : u < 10 ^ (20 - 0) := by
  have : (10 : Nat) ^ (20 - 0) = 100000000000000000000 := by decide
  omega
theorem byte_fig {r : Nat} (h : r < 10) : (fb r).toNat = 48 + r := by
  unfold fb
  rw [UInt8.toNat_ofNat']; omega
theorem itoa_pos {n : Nat} : itoa (n : Int) = decDigits n := by
  unfold itoa; rw [if_neg (by omega)]; rfl
theorem itoa_neg {n : Nat} (h : n ≠ 0) : itoa (-(n : Int)) = 45 :: decDigits n := by
  unfold itoa; rw [if_pos (by omega)]
  simp

end Go.Proofs.YtckeffccoghgeaaDoor.Plain
