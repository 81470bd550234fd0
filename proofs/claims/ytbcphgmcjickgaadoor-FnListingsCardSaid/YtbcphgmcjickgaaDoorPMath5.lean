/-
  Plain facts on the parts of a line, of no program. No conditions.
-/
import Derived.PlainAid
namespace Go.Proofs.YtbcphgmcjickgaaDoor.Plain
open Go.PlainAid

/-- the bytes from b up to i, if there are any -/
def word (s : ByteArray) (b i : Nat) : List ByteArray := if b < i then [s.extract b i] else []

/-- the parts that are still to come: one began at b, all up to i is looked at, f bytes are left -/
def vF (s : ByteArray) : Nat → Nat → Nat → List ByteArray
  | 0, b, i => word s b i
  | f + 1, b, i => if bt s i = 32 then word s b i ++ vF s f (i + 1) (i + 1) else vF s f b (i + 1)

def V (s : ByteArray) (b i : Nat) : List ByteArray := vF s (s.size - i) b i

theorem V_end {s : ByteArray} {b i : Nat} (h : ¬ i < s.size) : V s b i = word s b i := by
  unfold V; rw [show s.size - i = 0 by omega]; rfl

theorem V_blank {s : ByteArray} {b i : Nat} (h : i < s.size) (hb : bt s i = 32) : V s b i = word s b i ++ V s (i + 1) (i + 1) := by
  unfold V; rw [show s.size - i = (s.size - (i + 1)) + 1 by omega, vF, if_pos hb]

theorem V_on {s : ByteArray} {b i : Nat} (h : i < s.size) (hb : ¬ bt s i = 32) : V s b i = V s b (i + 1) := by
  unfold V; rw [show s.size - i = (s.size - (i + 1)) + 1 by omega, vF, if_neg hb]

theorem word_self (s : ByteArray) (i : Nat) : word s i i = [] := by unfold word; rw [if_neg (by omega)]

theorem V_skip {s : ByteArray} {i : Nat} (h : i < s.size) (hb : bt s i = 32) : V s i i = V s (i + 1) (i + 1) := by
  rw [V_blank h hb, word_self]; rfl

theorem V_last {s : ByteArray} {i : Nat} (h : ¬ i < s.size) : V s i i = [] := by
  rw [V_end h, word_self]

/-- a part from a to e, where it ends -/
theorem V_part {s : ByteArray} {a e : Nat} (h : a < e) (he : e < s.size → bt s e = 32) : V s a e = s.extract a e :: V s e e := by
  by_cases hlt : e < s.size
  · rw [V_blank hlt (he hlt), V_skip hlt (he hlt)]
    unfold word; rw [if_pos h]; rfl
  · rw [V_end hlt, V_last hlt]
    unfold word; rw [if_pos h]

theorem vF_ne (s : ByteArray) : ∀ (f b i : Nat), b < i → 0 < (vF s f b i).length
  | 0, b, i, h => by show 0 < (word s b i).length; unfold word; rw [if_pos h]; simp
  | f + 1, b, i, h => by
    unfold vF
    split
    · rw [List.length_append]; unfold word; rw [if_pos h]; simp; omega
    · exact vF_ne s f b (i + 1) (by omega)

theorem V_ne {s : ByteArray} {k : Nat} (h : k < s.size) (hb : ¬ bt s k = 32) : 0 < (V s k k).length := by
  rw [V_on h hb]; exact vF_ne s _ k (k + 1) (by omega)

theorem V_len (s : ByteArray) : ∀ (f b i : Nat), (vF s f b i).length ≤ f + 1
  | 0, b, i => by show (word s b i).length ≤ 1; unfold word; split <;> simp
  | f + 1, b, i => by
    unfold vF
    split
    · have h1 := V_len s f (i + 1) (i + 1)
      have h2 : (word s b i).length ≤ 1 := by unfold word; split <;> simp
      rw [List.length_append]; omega
    · have := V_len s f b (i + 1); omega

/-- every byte of the line may stand there -/
def Plainly (s : ByteArray) : Prop := ∀ k, k < s.size → 32 ≤ bt s k ∧ bt s k ≤ 126

/-- what PartsOf answers -/
def Parts (s : ByteArray) (L : List ByteArray) (b : Bool) : Prop :=
  (b = true ∧ s.size ≤ 600 ∧ Plainly s ∧ (V s 0 0).length ≤ 10 ∧ L = V s 0 0) ∨ (b = false ∧ L = [] ∧ ¬ (s.size ≤ 600 ∧ Plainly s ∧ (V s 0 0).length ≤ 10))

theorem parts_one {s : ByteArray} {L L' : List ByteArray} {b b' : Bool} (h : Parts s L b) (h' : Parts s L' b') : L = L' ∧ b = b' := by
  rcases h with ⟨h1, h2, h3, h4, h5⟩ | ⟨h1, h2, h3⟩ <;> rcases h' with ⟨g1, g2, g3, g4, g5⟩ | ⟨g1, g2, g3⟩
  · exact ⟨h5.trans g5.symm, h1.trans g1.symm⟩
  · exact absurd ⟨h2, h3, h4⟩ g3
  · exact absurd ⟨g2, g3, g4⟩ h3
  · exact ⟨h2.trans g2.symm, h1.trans g1.symm⟩

theorem parts_no {s : ByteArray} (h : ¬ (s.size ≤ 600 ∧ Plainly s ∧ (V s 0 0).length ≤ 10)) : Parts s [] false := .inr ⟨rfl, rfl, h⟩

theorem parts_yes {s : ByteArray} {L : List ByteArray} (h1 : s.size ≤ 600) (h2 : Plainly s) (h3 : L = V s 0 0) (h4 : L.length ≤ 10) : Parts s L true := .inl ⟨rfl, h1, h2, h3 ▸ h4, h3⟩
end Go.Proofs.YtbcphgmcjickgaaDoor.Plain
