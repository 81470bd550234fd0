/-
  Plain facts on sums: halves, four at once by a table, and that no two sums meet.
-/
namespace Go.Proofs.YtfhhnelffldggaaGreatDoor.Q
set_option linter.unusedVariables false
def half (x : Nat) : Nat := if x % 2 = 1 then x / 2 ^^^ 3558460437 else x / 2
theorem half_odd {x : Nat} (h : x % 2 = 1) : half x = x / 2 ^^^ 3558460437 := by unfold half; rw [if_pos h]
theorem half_even {x : Nat} (h : x % 2 = 0) : half x = x / 2 := by unfold half; rw [if_neg (by omega)]
theorem half_lt {x : Nat} (h : x < 4294967296) : half x < 4294967296 := by
  unfold half; split
  · exact Nat.xor_lt_two_pow (n := 32) (by omega) (by omega)
  · omega
theorem xor_half (x y : Nat) : (x ^^^ y) / 2 = x / 2 ^^^ y / 2 := by
  apply Nat.eq_of_testBit_eq
  intro i
  simp [Nat.testBit_xor, Nat.testBit_div_two]
theorem xor_odd (x y : Nat) : (x ^^^ y) % 2 = (x + y) % 2 := by
  have h : (x ^^^ y).testBit 0 = (x.testBit 0 ^^ y.testBit 0) := Nat.testBit_xor ..
  simp only [Nat.testBit_zero] at h
  have hx := Nat.mod_two_eq_zero_or_one x
  have hy := Nat.mod_two_eq_zero_or_one y
  have hz := Nat.mod_two_eq_zero_or_one (x ^^^ y)
  rcases hx with hx | hx <;> rcases hy with hy | hy <;> rcases hz with hz | hz <;> simp [hx, hy, hz] at h <;> omega
theorem half_xor (x y : Nat) : half (x ^^^ y) = half x ^^^ half y := by
  have o := xor_odd x y
  have e := xor_half x y
  rcases Nat.mod_two_eq_zero_or_one x with hx | hx <;> rcases Nat.mod_two_eq_zero_or_one y with hy | hy
  · rw [half_even hx, half_even hy, half_even (by omega), e]
  · rw [half_even hx, half_odd hy, half_odd (by omega), e, Nat.xor_assoc]
  · rw [half_odd hx, half_even hy, half_odd (by omega), e, Nat.xor_assoc, Nat.xor_assoc, Nat.xor_comm (y / 2)]
  · rw [half_odd hx, half_odd hy, half_even (by omega), e, Nat.xor_assoc, Nat.xor_comm 3558460437, Nat.xor_assoc, Nat.xor_self, Nat.xor_zero]
def fourH (x : Nat) : Nat := half (half (half (half x)))
theorem fourH_lt {x : Nat} (h : x < 4294967296) : fourH x < 4294967296 := half_lt (half_lt (half_lt (half_lt h)))
theorem fourH_xor (x y : Nat) : fourH (x ^^^ y) = fourH x ^^^ fourH y := by
  unfold fourH; rw [half_xor, half_xor, half_xor, half_xor]
theorem fourH_low (q : Nat) : fourH (16 * q) = q := by
  unfold fourH
  rw [half_even (x := 16 * q) (by omega), half_even (x := 16 * q / 2) (by omega), half_even (x := 16 * q / 2 / 2) (by omega), half_even (x := 16 * q / 2 / 2 / 2) (by omega)]
  omega
def tab : Nat → Nat
  | 0 => 0 | 1 => 1166650509 | 2 => 2333301018 | 3 => 3466261911 | 4 => 3189058079 | 5 => 4221339282 | 6 => 889615109 | 7 => 1888477064
  | 8 => 3558460437 | 9 => 2442158232 | 10 => 1594529039 | 11 => 444807554 | 12 => 1779230218 | 13 => 797264519 | 14 => 3776954128 | 15 => 2761298845
  | _ => 0
theorem tab_at : ∀ r : Nat, r < 16 → fourH r = tab r := by decide
theorem tab_lt : ∀ r : Nat, tab r < 4294967296 := by
  intro r; unfold tab; split <;> omega
theorem low_xor (q r : Nat) (h : r < 16) : 16 * q + r = 16 * q ^^^ r := by
  apply Nat.eq_of_testBit_eq
  intro i
  rw [Nat.testBit_xor, show 16 * q = 2 ^ 4 * q by omega, Nat.testBit_two_pow_mul_add _ (by omega), Nat.testBit_two_pow_mul]
  by_cases h4 : i < 4
  · simp [h4, show ¬ 4 ≤ i by omega]
  · have : r.testBit i = false := Nat.testBit_lt_two_pow (Nat.lt_of_lt_of_le h (by exact Nat.pow_le_pow_right (n := 2) (by omega) (show 4 ≤ i by omega)))
    simp [h4, this]; intro hh; omega
theorem fourH_tab (x : Nat) : fourH x = x / 16 ^^^ tab (x % 16) := by
  have e : x = 16 * (x / 16) ^^^ x % 16 := by rw [← low_xor _ _ (by omega)]; omega
  conv => lhs; rw [e]
  rw [fourH_xor, fourH_low, tab_at _ (by omega)]
def eight (x : Nat) : Nat := fourH (fourH x)
theorem eight_lt {x : Nat} (h : x < 4294967296) : eight x < 4294967296 := fourH_lt (fourH_lt h)
def halves : Nat → Nat → Nat
  | 0, y => y
  | k + 1, y => half (halves k y)
theorem halves_eight (y : Nat) : halves 8 y = eight y := rfl
theorem halves_lt {y : Nat} (h : y < 4294967296) (k : Nat) : halves k y < 4294967296 := by
  induction k with
  | zero => exact h
  | succ k ih => exact half_lt ih
theorem halves_odd {y k : Nat} (h : halves k y % 2 = 1) : halves (k + 1) y = halves k y / 2 ^^^ 3558460437 := half_odd h
theorem halves_even {y k : Nat} (h : halves k y % 2 = 0) : halves (k + 1) y = halves k y / 2 := half_even h
theorem byte_lt {x : Nat} (h : x < 4294967296) (c : UInt8) : x ^^^ c.toNat < 4294967296 :=
  Nat.xor_lt_two_pow (n := 32) (by omega) (by have := c.toNat_lt; omega)
def crc (x : Nat) (l : List UInt8) : Nat := l.foldl (fun x c => eight (x ^^^ c.toNat)) x
theorem crc_snoc (x : Nat) (l : List UInt8) (c : UInt8) : crc x (l ++ [c]) = eight (crc x l ^^^ c.toNat) := by
  unfold crc; rw [List.foldl_append]; rfl
theorem crc_lt {x : Nat} (h : x < 4294967296) (l : List UInt8) : crc x l < 4294967296 := by
  induction l generalizing x with
  | nil => exact h
  | cons c l ih => exact ih (eight_lt (byte_lt h c))
theorem crc_take (x : Nat) (s : ByteArray) (k : Nat) (h : k < s.size) : crc x (s.data.toList.take (k + 1)) = eight (crc x (s.data.toList.take k) ^^^ s[k].toNat) := by
  rw [← crc_snoc, List.take_succ_eq_append_getElem (by simpa using h)]; rfl
def fourB (x : Nat) : List UInt8 := [UInt8.ofNat (x / 16777216), UInt8.ofNat (x / 65536), UInt8.ofNat (x / 256), UInt8.ofNat x]
end Go.Proofs.YtfhhnelffldggaaGreatDoor.Q
