/-
  Plain facts on numerals read back, of no program. No conditions.
-/
import Derived.Test.YtckeffccoghgeaaDoorDMath
namespace Go.Proofs.YtckeffccoghgeaaDoor.Plain
open Go.Lib

/-- the number that figures are worth, going on from a -/
def foG (a : Int) (l : List UInt8) : Int := l.foldl (fun a c => 10 * a + (c.toNat : Int) - 48) a
def Digits (l : List UInt8) : Prop := ∀ c ∈ l, 48 ≤ (c.toNat : Int) ∧ (c.toNat : Int) ≤ 57
theorem foG_snoc (a : Int) (l : List UInt8) (c : UInt8) : foG a (l ++ [c]) = 10 * foG a l + (c.toNat : Int) - 48 := by
  unfold foG; rw [List.foldl_append]; rfl
theorem foG_app (a : Int) (l r : List UInt8) : foG a (l ++ r) = foG (foG a l) r := by
  unfold foG; rw [List.foldl_append]
theorem foG_le : ∀ (l : List UInt8) (a : Int), 0 ≤ a → Digits l → a ≤ foG a l
  | [], a, _, _ => Int.le_refl _
  | c :: l, a, h, hd => by
    have hc := hd c (by simp)
    have := foG_le l (10 * a + (c.toNat : Int) - 48) (by omega) (fun d hd' => hd d (by simp [hd']))
    have e : foG a (c :: l) = foG (10 * a + (c.toNat : Int) - 48) l := rfl
    omega
theorem fb_bd {r : Nat} (h : r < 10) : 48 ≤ ((fb r).toNat : Int) ∧ ((fb r).toNat : Int) ≤ 57 := by
  rw [byte_fig h]; omega
theorem dec_all : ∀ (f m : Nat), m ≤ f → Digits (decDigits m) ∧ foG 0 (decDigits m) = (m : Int)
  | 0, m, h => by
    obtain rfl : m = 0 := by omega
    rw [decDigits, dif_pos (by omega)]
    refine ⟨fun c hc => ?_, by decide⟩
    obtain rfl : c = UInt8.ofNat (48 + 0) := by simpa using hc
    decide
  | f + 1, m, h => by
    by_cases h1 : m < 10
    · rw [decDigits, dif_pos h1]
      have hb := byte_fig h1
      refine ⟨fun c hc => ?_, ?_⟩
      · obtain rfl : c = fb m := List.mem_singleton.1 hc
        exact fb_bd h1
      · show 10 * 0 + ((fb m).toNat : Int) - 48 = m
        omega
    · obtain ⟨h2, h3⟩ := dec_all f (m / 10) (by omega)
      have hb := byte_fig (r := m % 10) (by omega)
      rw [decDigits, dif_neg h1]
      refine ⟨fun c hc => ?_, ?_⟩
      · rcases List.mem_append.1 hc with hc | hc
        · exact h2 c hc
        · obtain rfl : c = fb (m % 10) := List.mem_singleton.1 hc
          exact fb_bd (by omega)
      · rw [foG_snoc, h3]
        show 10 * ((m / 10 : Nat) : Int) + ((fb (m % 10)).toNat : Int) - 48 = m
        omega
theorem dec_len : ∀ (k m : Nat), m < 10 ^ (k + 1) → (decDigits m).length ≤ k + 1
  | 0, m, h => by
    rw [decDigits, dif_pos (by simpa using h)]; simp
  | k + 1, m, h => by
    by_cases h1 : m < 10
    · rw [decDigits, dif_pos h1]; simp
    · rw [decDigits, dif_neg h1]
      have := dec_len k (m / 10) (by rw [Nat.pow_succ] at h; omega)
      simp; omega
theorem dec_len10 {m : Nat} (h : m ≤ 1000000000) : (decDigits m).length ≤ 10 := by
  have e : (10 : Nat) ^ (9 + 1) = 10000000000 := by decide
  exact dec_len 9 m (by omega)
theorem dec_inj {m n : Nat} (h : decDigits m = decDigits n) : m = n := by
  have h1 := (dec_all m m (Nat.le_refl _)).2
  have h2 := (dec_all n n (Nat.le_refl _)).2
  rw [h, h2] at h1
  omega
/-- of a numeral: each byte is a figure; what a beginning is worth is no more than all; all is worth the number -/
theorem dec_take {m : Nat} {l : List UInt8} (h : decDigits m = l) (k : Nat) : 0 ≤ foG 0 (l.take k) ∧ foG 0 (l.take k) ≤ m := by
  obtain ⟨h1, h2⟩ := dec_all m m (Nat.le_refl _)
  rw [h] at h1 h2
  have a := foG_le (l.take k) 0 (Int.le_refl _) (fun c hc => h1 c (List.mem_of_mem_take hc))
  have b := foG_le (l.drop k) (foG 0 (l.take k)) a (fun c hc => h1 c (List.mem_of_mem_drop hc))
  rw [← foG_app, List.take_append_drop, h2] at b
  exact ⟨a, b⟩
theorem dec_byte {m : Nat} {l : List UInt8} (h : decDigits m = l) (k : Nat) (hk : k < l.length) : 48 ≤ (l[k].toNat : Int) ∧ (l[k].toNat : Int) ≤ 57 := by
  have h1 := (dec_all m m (Nat.le_refl _)).1
  rw [h] at h1
  exact h1 _ (List.getElem_mem hk)
theorem dec_fo {m : Nat} {l : List UInt8} (h : decDigits m = l) : foG 0 l = m := by
  rw [← h]; exact (dec_all m m (Nat.le_refl _)).2

/-- what ReadDecimal answers of a text -/
def Rd (l : List UInt8) (r : Option Nat) : Prop := (∀ n, r = some n → n ≤ 1000000000 ∧ decDigits n = l) ∧ (r = none → ∀ m, m ≤ 1000000000 → decDigits m ≠ l)
theorem rd_one {l : List UInt8} {r r' : Option Nat} (h : Rd l r) (h' : Rd l r') : r = r' := by
  cases r with
  | none =>
    cases r' with
    | none => rfl
    | some n => have := h'.1 n rfl; exact absurd this.2 (h.2 rfl n this.1)
  | some m =>
    have hm := h.1 m rfl
    cases r' with
    | none => exact absurd hm.2 (h'.2 rfl m hm.1)
    | some n => have hn := h'.1 n rfl; rw [dec_inj (hm.2.trans hn.2.symm)]

end Go.Proofs.YtckeffccoghgeaaDoor.Plain
