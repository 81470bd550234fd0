/-
  The mathematics of a volume that is given whole.
-/
import Derived.Test.YtpjnmkijndmemaaPmI
namespace Go.Proofs.Ytpjnmkijndmemaa
open Go.RowKit Go.PlainAid
set_option linter.unusedVariables false
set_option linter.unusedSimpArgs false

theorem pm_eqV {p q : Pm} (h0 : p.s = q.s) (h1 : p.n = q.n) (h2 : p.d = q.d) (h3 : p.r = q.r) (h4 : p.l = q.l) (h5 : p.b = q.b) (h6 : p.g = q.g) (h7 : p.k = q.k) : p = q := by
  cases p
  cases q
  simp_all
def VolR (n d v : Int) : Prop := (1 ≤ d ∧ d ≤ 9) ∧ (1 ≤ n ∧ n ≤ 3 * d) ∧ (1 ≤ v ∧ v ≤ 60)
/-- the pump behind q pulses, rest r, of v -/
def volP (n d v q r : Int) : Pm := if q < v then ⟨1, n, d, r, v - q, 0, q, 0⟩ else ⟨2, 1, 50, 0, 0, 0, v, 0⟩
theorem vol_take {n d v : Int} (h : VolR n d v) : newP.take 1 n d v = (⟨1, n, d, 0, v, 0, 0, 0⟩, true) := by
  unfold VolR at h
  unfold Pm.take
  rw [if_pos ⟨ok_yes new_ok, or_yes (by unfold OrdR; omega)⟩]
  simp [newP]
theorem vol_ok {n d v q r : Int} (h : VolR n d v) (hq : 0 ≤ q) (hqv : q < v) (hr : 0 ≤ r ∧ r < d) : Pm.ok ⟨1, n, d, r, v - q, 0, q, 0⟩ := by
  unfold VolR at h
  unfold Pm.ok ratR
  dsimp only
  omega
theorem vol_wants {n d v q r z : Int} (h : VolR n d v) (hq : 0 ≤ q) (hqv : q < v) (hr : 0 ≤ r ∧ r < d) (hz : (r + n) / d = z) : Pm.wants ⟨1, n, d, r, v - q, 0, q, 0⟩ = min z (v - q) := by
  rw [wants_run (vol_ok h hq hqv hr) (.inl rfl)]
  unfold Pm.base Pm.rate
  simp [hz]
  omega
theorem vol_step {n d v q r z s : Int} (h : VolR n d v) (hq : 0 ≤ q) (hqv : q < v) (hr : 0 ≤ r ∧ r < d) (hz : (r + n) / d = z) (hs : (r + n) % d = s) (h0 : 0 ≤ z) :
    Pm.give ⟨1, n, d, r, v - q, 0, q, 0⟩ (min z (v - q)) = volP n d v (q + z) s := by
  have hw := vol_wants h hq hqv hr hz
  unfold VolR at h
  unfold Pm.give
  rw [if_pos ⟨ok_yes (vol_ok h hq hqv hr), .inl rfl⟩]
  unfold Pm.giveR
  rw [hw]
  dsimp only
  obtain ⟨m, hm⟩ : ∃ m, max (min (min z (v - q)) (min z (v - q))) 0 = m := ⟨_, rfl⟩
  rw [hm, hs]
  have hm' : m = min z (v - q) := by omega
  have hc : min m (min (0 : Int) 3) = 0 := by omega
  rw [hc]
  unfold volP
  by_cases hl : q + z < v
  · rw [if_pos hl, if_neg (by simp; omega)]
    refine pm_eqV rfl rfl rfl rfl ?_ ?_ ?_ rfl <;> simp <;> omega
  · rw [if_neg hl, if_pos (by simp; omega)]
    refine pm_eqV rfl rfl rfl rfl ?_ ?_ ?_ rfl <;> simp <;> omega
/-- how many ticks it takes -/
theorem vol_ticks {n d v : Int} (h : VolR n d v) : ∃ m : Nat, v * d ≤ (m : Int) * n ∧ ((m : Int) - 1) * n < v * d ∧ 1 ≤ m ∧ m ≤ 540 := by
  unfold VolR at h
  obtain ⟨X, hX⟩ : ∃ X, v * d = X := ⟨_, rfl⟩
  have hX1 : 1 ≤ X := by rw [← hX]; have := Int.mul_le_mul (a := 1) (b := 1) (c := v) (d := d) (by omega) (by omega) (by omega) (by omega); omega
  have hX2 : X ≤ 540 := by rw [← hX]; have := Int.mul_le_mul (a := v) (b := d) (c := 60) (d := 9) (by omega) (by omega) (by omega) (by omega); omega
  obtain ⟨y, hy⟩ : ∃ y, (X + n - 1) / n = y := ⟨_, rfl⟩
  obtain ⟨r, hr⟩ : ∃ r, (X + n - 1) % n = r := ⟨_, rfl⟩
  have h1 := Int.emod_add_mul_ediv (X + n - 1) n
  have h2 := Int.emod_nonneg (X + n - 1) (show n ≠ 0 by omega)
  have h3 := Int.emod_lt_of_pos (X + n - 1) (show 0 < n by omega)
  rw [hy, hr] at h1
  rw [hr] at h2 h3
  have hyn : n * y = y * n := Int.mul_comm _ _
  have e1 : (y - 1) * n = y * n - n := by rw [Int.sub_mul, Int.one_mul]
  have y0 : 1 ≤ y := by
    rcases Int.lt_or_le y 1 with hl | hl
    · have : y * n ≤ 0 * n := Int.mul_le_mul_of_nonneg_right (by omega) (by omega)
      omega
    · exact hl
  have y1 : y - 1 ≤ (y - 1) * n := by
    have := Int.mul_le_mul_of_nonneg_left (show 1 ≤ n by omega) (show 0 ≤ y - 1 by omega)
    omega
  refine ⟨y.toNat, ?_, ?_, ?_, ?_⟩
  · rw [hX, Int.toNat_of_nonneg (by omega)]
    omega
  · rw [hX, Int.toNat_of_nonneg (by omega)]
    omega
  · omega
  · omega
/-- the pulses of j ticks, ahead of the last -/
theorem vol_ahead {n d v : Int} (h : VolR n d v) {m j : Nat} (hm : ((m : Int) - 1) * n < v * d) (hj : j < m) : ((j : Int) * n) / d < v := by
  unfold VolR at h
  have h1 : (j : Int) * n ≤ ((m : Int) - 1) * n := Int.mul_le_mul_of_nonneg_right (by omega) (by omega)
  exact Int.ediv_lt_of_lt_mul (by omega) (by omega)
theorem vol_last {n d v : Int} (h : VolR n d v) {m : Nat} (hm : v * d ≤ (m : Int) * n) : ¬ ((m : Int) * n) / d < v := by
  unfold VolR at h
  have := Int.le_ediv_of_mul_le (show 0 < d by omega) hm
  omega
theorem vol_next {n d : Int} (hd : 1 ≤ d) (j : Int) : ((j + 1) * n) / d = (j * n) / d + ((j * n) % d + n) / d ∧ ((j + 1) * n) % d = ((j * n) % d + n) % d := by
  have e : (j + 1) * n = d * ((j * n) / d) + ((j * n) % d + n) := by
    have := Int.emod_add_mul_ediv (j * n) d
    rw [Int.add_mul, Int.one_mul]
    omega
  constructor
  · rw [e, Int.mul_add_ediv_left _ _ (show d ≠ 0 by omega)]
  · rw [e, Int.mul_add_emod_self_left]
end Go.Proofs.Ytpjnmkijndmemaa
