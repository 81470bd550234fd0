/-
  The contracts of the functions that read a number back out of bytes.
-/
import Derived.Test.YticlbaopnbddbaaDoorVarV
import Derived.Deep.RegionWith
namespace Go.Proofs.YticlbaopnbddbaaDoor.V
open Go.RowKit Plain Go.PlainAid
set_option linter.unusedVariables false

/-- the number N, if its bytes are those of s from a to b -/
def fin (s : ByteArray) (a b : Nat) (N : Int) : Option (Int × Nat) := if N ≤ 1000000000 ∧ vt N.toNat = (s.extract a b).toList then some (N, b) else none
/-- f bytes more are looked at, from k on -/
def rvF (s : ByteArray) (a : Nat) : Nat → Nat → Int → Int → Option (Int × Nat)
  | 0, _, _, _ => none
  | f + 1, k, N, S => if k < s.size then (if bt s k < 128 then fin s a (k + 1) (N + bt s k % 128 * S) else rvF s a f (k + 1) (N + bt s k % 128 * S) (S * 128)) else none
/-- what ReadVar reads -/
def rv (s : ByteArray) (a : Int) : Option (Int × Nat) := if 0 ≤ a ∧ a ≤ s.size then rvF s a.toNat 5 a.toNat 0 1 else none
def enc3 : Option (Int × Nat) → Value
  | none => .tuple #[.int .i64 0, .int .i64 0, .bool false]
  | some (N, b) => .tuple #[.int .i64 N, .int .i64 b, .bool true]

theorem fin_some {s : ByteArray} {a b : Nat} {N M : Int} {c : Nat} (h0 : 0 ≤ N) (h : fin s a b N = some (M, c)) : 0 ≤ M ∧ M ≤ 1000000000 ∧ c = b := by
  unfold fin at h
  split at h
  · simp at h; omega
  · simp at h
theorem rvF_some {s : ByteArray} {a : Nat} : ∀ (f k : Nat) (N S : Int) {M : Int} {c : Nat}, 0 ≤ N → 0 ≤ S → rvF s a f k N S = some (M, c) → 0 ≤ M ∧ M ≤ 1000000000 ∧ k < c ∧ c ≤ s.size
  | 0, k, N, S, M, c, _, _, h => by simp [rvF] at h
  | f + 1, k, N, S, M, c, h0, hS, h => by
    unfold rvF at h
    have hp : 0 ≤ bt s k % 128 * S := Int.mul_nonneg (by omega) hS
    split at h
    · split at h
      · have := fin_some (by omega) h; omega
      · have := rvF_some f (k + 1) _ _ (by omega) (by omega) h; omega
    · simp at h
theorem rv_some {s : ByteArray} {a M : Int} {c : Nat} (h : rv s a = some (M, c)) : 0 ≤ M ∧ M ≤ 1000000000 ∧ c ≤ s.size := by
  unfold rv at h
  split at h
  · have := rvF_some 5 a.toNat 0 1 (by omega) (by omega) h; omega
  · simp at h

/-- what the byte behind j bytes is worth -/
def sc : Nat → Int
  | 0 => 1
  | j + 1 => sc j * 128
theorem sc_pos : ∀ j, 1 ≤ sc j
  | 0 => by simp [sc]
  | j + 1 => by have := sc_pos j; simp only [sc]; omega
theorem sc_le : ∀ j, j < 5 → sc j ≤ 268435456
  | 0, _ => by decide
  | 1, _ => by decide
  | 2, _ => by decide
  | 3, _ => by decide
  | 4, _ => by decide
  | j + 5, h => by omega
theorem sc_five : sc 5 = 34359738368 := by decide
theorem prod_bd (b S : Int) (hS : 1 ≤ S) : 0 ≤ b % 128 * S ∧ b % 128 * S ≤ 127 * S :=
  ⟨Int.mul_nonneg (by omega) (by omega), Int.mul_le_mul_of_nonneg_right (by omega) (by omega)⟩

theorem fin_yes {s : ByteArray} {a b : Nat} {N : Int} (h : N ≤ 1000000000) (e : (vt N.toNat == (s.extract a b).toList) = true) : fin s a b N = some (N, b) := by
  unfold fin; rw [if_pos ⟨h, by simpa using e⟩]
theorem fin_no {s : ByteArray} {a b : Nat} {N : Int} (e : (vt N.toNat == (s.extract a b).toList) = false) : fin s a b N = none := by
  unfold fin; rw [if_neg (fun h => by rw [h.2] at e; simp at e)]
theorem fin_big {s : ByteArray} {a b : Nat} {N : Int} (h : ¬ N ≤ 1000000000) : fin s a b N = none := by
  unfold fin; rw [if_neg (fun h' => h h'.1)]

set_option maxRecDepth 100000 in
set_option maxHeartbeats 400000 in
theorem exact23 (N : Int) (s : ByteArray) (a b : Nat) (hs : s.size ≤ 1048576) (hab : a ≤ b) (hb : b ≤ s.size) (h0 : 0 ≤ N) (hN : N ≤ 9223372036854775807) (w : World) :
    Calls Tryd.prog 48 #[.int .i64 N, .string s, .int .i64 a, .int .i64 b] w fun e w' => e = .returned (enc3 (fin s a b N)) ∧ Below w.heap.size w w' := by
  by_cases hle : N ≤ 1000000000
  · obtain ⟨n, rfl⟩ := Int.eq_ofNat_of_zero_le h0
    have hn : n ≤ 1000000000 := by omega
    cases e : vt n == (s.extract a b).toList
    · have H : Hid (fin s a b n = none) := fin_no (by simpa using e)
      go_enter Tryd.func48, Tryd.ntmps48
      go_wp2_with fail
      refine (var10 n hn _).mono ?_
      rintro e w1 ⟨rfl, hb1⟩
      go_wp2
      go_ret3
      exact ⟨by rw [H.out]; rfl, hb1⟩
    · have H : Hid (fin s a b n = some ((n : Int), b)) := fin_yes hle (by simpa using e)
      go_enter Tryd.func48, Tryd.ntmps48
      go_wp2_with fail
      refine (var10 n hn _).mono ?_
      rintro e w1 ⟨rfl, hb1⟩
      go_wp2
      go_ret3
      exact ⟨by rw [H.out]; rfl, hb1⟩
  · have H : Hid (fin s a b N = none) := fin_big hle
    go_enter Tryd.func48, Tryd.ntmps48
    go_wp2_with fail
    refine (no10 N (by omega) (by omega) (by omega) _).mono ?_
    rintro e w1 ⟨rfl, hb1⟩
    go_wp2
    go_ret3
    exact ⟨by rw [H.out]; rfl, hb1⟩
end Go.Proofs.YticlbaopnbddbaaDoor.V
