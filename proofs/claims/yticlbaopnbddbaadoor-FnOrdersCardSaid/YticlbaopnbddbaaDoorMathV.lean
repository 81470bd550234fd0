/-
  Plain facts on numbers and lists of bytes, of no program: the bytes of a number ('vt'), what is read back of them ('rv'), figures. No conditions.
-/
import Derived.Test.YticlbaopnbddbaaDoorBase
namespace Go.Proofs.YticlbaopnbddbaaDoor.Plain

/-- the bytes of a number -/
def vt (n : Nat) : List UInt8 := if 127 < n then UInt8.ofNat (n % 128 + 128) :: vt (n / 128) else [UInt8.ofNat n]

theorem vt_big {n : Nat} (h : 127 < n) : vt n = UInt8.ofNat (n % 128 + 128) :: vt (n / 128) := by
  rw [vt, if_pos h]
theorem vt_small {n : Nat} (h : ¬ 127 < n) : vt n = [UInt8.ofNat n] := by
  rw [vt, if_neg h]

theorem vt_pos (n : Nat) : 0 < (vt n).length := by
  rw [vt]; split <;> simp

theorem vt_len : ∀ (f n : Nat), n ≤ f → (vt n).length ≤ n + 1
  | 0, n, h => by rw [vt_small (by omega)]; simp
  | f + 1, n, h => by
    by_cases hb : 127 < n
    · rw [vt_big hb]
      have := vt_len f (n / 128) (by omega)
      simp only [List.length_cons]; omega
    · rw [vt_small hb]; simp

theorem toNat_big (m : Nat) : (UInt8.ofNat (m % 128 + 128)).toNat = m % 128 + 128 := by
  rw [UInt8.toNat_ofNat']; omega
theorem toNat_small {m : Nat} (h : ¬ 127 < m) : (UInt8.ofNat m).toNat = m := by
  rw [UInt8.toNat_ofNat']; omega

end Go.Proofs.YticlbaopnbddbaaDoor.Plain
