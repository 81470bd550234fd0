/-
  What is written is read back: numbers in bytes.
-/
import Derived.Test.YticlbaopnbddbaaDoorLoopV
namespace Go.Proofs.YticlbaopnbddbaaDoor.V
open Go.RowKit Plain Go.PlainAid
set_option linter.unusedVariables false

/-- the byte at k, out of what stands from k on -/
theorem bt_drop {s : ByteArray} {k : Nat} {b : UInt8} {l : List UInt8} (h : s.data.toList.drop k = b :: l) : k < s.size ∧ bt s k = (b.toNat : Int) ∧ s.data.toList.drop (k + 1) = l := by
  have hk : k < s.data.toList.length := by
    rcases Nat.lt_or_ge k s.data.toList.length with h' | h'
    · exact h'
    · rw [List.drop_of_length_le h'] at h; cases h
  have hk' : k < s.size := by rw [Array.length_toList] at hk; exact hk
  have e := List.drop_eq_getElem_cons hk
  rw [h] at e
  injection e with e1 e2
  refine ⟨hk', ?_, e2.symm⟩
  rw [← get_bt s k hk', e1]
  rfl
theorem ext_list (s : ByteArray) (a b : Nat) : (s.extract a b).data.toList = (s.data.toList.drop a).take (b - a) := by
  rw [ByteArray.data_extract, Array.toList_extract]

theorem rv_back : ∀ (f : Nat) (s : ByteArray) (a k m : Nat) (N S : Int) (post : List UInt8), (vt m).length ≤ f → s.data.toList.drop k = vt m ++ post → rvF s a f k N S = fin s a (k + (vt m).length) (N + (m : Int) * S)
  | 0, s, a, k, m, N, S, post, hf, _ => absurd (vt_pos m) (by omega)
  | f + 1, s, a, k, m, N, S, post, hf, hd => by
    by_cases hb : 127 < m
    · have hv := vt_big hb
      rw [hv] at hd hf ⊢
      simp only [List.cons_append] at hd
      obtain ⟨h1, h2, h3⟩ := bt_drop hd
      rw [toNat_big] at h2
      have hn : ¬ bt s k < 128 := by omega
      have hm : bt s k % 128 = (m : Int) % 128 := by omega
      rw [rvF_on h1 hn, rv_back f s a (k + 1) (m / 128) _ _ post (by simpa using hf) h3, hm]
      congr 1
      · simp only [List.length_cons]; omega
      · have e : (m : Int) = (m : Int) % 128 + 128 * ((m / 128 : Nat) : Int) := by omega
        conv => rhs; rw [e, Int.add_mul]
        rw [Int.add_assoc, Int.mul_assoc, Int.mul_comm 128 _, Int.mul_assoc]
    · have hv := vt_small hb
      rw [hv] at hd ⊢
      simp only [List.cons_append, List.nil_append] at hd
      obtain ⟨h1, h2, h3⟩ := bt_drop hd
      rw [toNat_small hb] at h2
      have hn : bt s k < 128 := by omega
      have hm : bt s k % 128 = (m : Int) := by omega
      rw [rvF_fin h1 hn, hm]
      rfl
theorem vt_short : ∀ (f n : Nat), n < 128 ^ (f + 1) → (vt n).length ≤ f + 1
  | 0, n, h => by rw [vt_small (by simp at h; omega)]; simp
  | f + 1, n, h => by
    by_cases hb : 127 < n
    · rw [vt_big hb]
      have := vt_short f (n / 128) (by rw [Nat.pow_succ] at h; omega)
      simp only [List.length_cons]; omega
    · rw [vt_small hb]; simp
theorem vt_five {n : Nat} (h : n ≤ 1000000000) : (vt n).length ≤ 5 := by
  have e : (128 : Nat) ^ (4 + 1) = 34359738368 := by decide
  exact vt_short 4 n (by omega)
/-- a number's bytes are read back, wherever they stand -/
theorem rv_at {s : ByteArray} {a n : Nat} {post : List UInt8} (hn : n ≤ 1000000000) (hd : s.data.toList.drop a = vt n ++ post) (ha : a ≤ s.size) : rv s (a : Int) = some ((n : Int), a + (vt n).length) := by
  unfold rv
  rw [if_pos (by omega), show (a : Int).toNat = a from rfl, rv_back 5 s a a n 0 1 post (vt_five hn) hd]
  rw [show (0 : Int) + (n : Int) * 1 = (n : Int) by omega]
  refine fin_yes (by omega) ?_
  rw [ByteArray.toList_eq, ext_list, hd]
  simp
theorem size_list (s : ByteArray) : s.size = s.data.toList.length := (Array.length_toList ..).symm

end Go.Proofs.YticlbaopnbddbaaDoor.V
