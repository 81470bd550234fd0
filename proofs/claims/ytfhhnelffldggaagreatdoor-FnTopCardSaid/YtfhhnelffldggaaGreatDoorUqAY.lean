/-
  Keys rune by rune: what is more than a byte changes nothing.
-/
import Derived.Test.YtfhhnelffldggaaGreatDoorUqAG
import Derived.Laws.RangeAny
namespace Go.Proofs.YtfhhnelffldggaaGreatDoor
open Go.RowKit Go.PlainAid
set_option linter.unusedVariables false
set_option linter.unusedSimpArgs false
theorem press_high (m : Mn) {key : Int} (h : 128 ≤ key) : pressM m key = noP m := by
  unfold pressM
  by_cases h1 : okM m = false
  · rw [if_pos h1]
  rw [if_neg h1]
  by_cases h2 : m.a = 1
  · rw [if_pos h2]
    unfold topM
    rw [if_neg (by omega), if_neg (by omega), if_neg (by omega), if_neg (by omega), if_neg (by omega), if_neg (by omega)]
  rw [if_neg h2, if_neg (by omega), if_neg (by omega), if_pos (by omega)]
theorem all_high : ∀ (l : List UInt8) (m : Mn), (∀ x ∈ l, 128 ≤ x.toNat) → allM m l = (m, [])
  | [], m, h => rfl
  | x :: l, m, h => by
    have hp : pressM m (x.toNat : Int) = noP m := press_high m (by have := h x (List.mem_cons_self ..); omega)
    have ih := all_high l m (fun y hy => h y (List.mem_cons_of_mem _ hy))
    rw [allM_cons, hp]
    dsimp only [noP]
    rw [ih]
    rfl
theorem dec_wide (K : ByteArray) (pos : Nat) (h : pos < K.size) (ha : 128 ≤ (K[pos]'h).toNat) : pos + (Utf8.decode K pos).2 ≤ K.size ∧ ∀ i, i < (Utf8.decode K pos).2 → 128 ≤ (K.get! (pos + i)).toNat := by
  have hn : ¬ (K[pos]'h).toNat < 128 := by omega
  have h0 : 128 ≤ (K.get! (pos + 0)).toNat := by rw [get_at K pos h]; exact ha
  have one : ∀ i, i < 1 → 128 ≤ (K.get! (pos + i)).toNat := fun i hi => by
    obtain rfl : i = 0 := by omega
    exact h0
  simp only [Utf8.decode, get_at K pos h, hn, if_false]
  by_cases c2 : ((K[pos]'h).toNat / 32 == 6 && (decide (pos + 1 < K.size) && (K.get! (pos + 1)).toNat / 64 == 2)) = true
  · rw [if_pos c2]
    simp only [Bool.and_eq_true, decide_eq_true_eq, beq_iff_eq] at c2
    have h1 : 128 ≤ (K.get! (pos + 1)).toNat := by omega
    split
    · refine ⟨by show pos + 2 ≤ K.size; omega, fun i hi => ?_⟩
      have hi2 : i = 0 ∨ i = 1 := by have : i < 2 := hi; omega
      rcases hi2 with rfl | rfl
      · exact h0
      · exact h1
    · exact ⟨by show pos + 1 ≤ K.size; omega, one⟩
  rw [if_neg c2]
  by_cases c3 : ((K[pos]'h).toNat / 16 == 14 && (decide (pos + 1 < K.size) && (K.get! (pos + 1)).toNat / 64 == 2) && (decide (pos + 2 < K.size) && (K.get! (pos + 2)).toNat / 64 == 2)) = true
  · rw [if_pos c3]
    simp only [Bool.and_eq_true, decide_eq_true_eq, beq_iff_eq] at c3
    have h1 : 128 ≤ (K.get! (pos + 1)).toNat := by omega
    have h2 : 128 ≤ (K.get! (pos + 2)).toNat := by omega
    split
    · refine ⟨by show pos + 3 ≤ K.size; omega, fun i hi => ?_⟩
      have hi2 : i = 0 ∨ i = 1 ∨ i = 2 := by have : i < 3 := hi; omega
      rcases hi2 with rfl | rfl | rfl
      · exact h0
      · exact h1
      · exact h2
    · exact ⟨by show pos + 1 ≤ K.size; omega, one⟩
  rw [if_neg c3]
  by_cases c4 : ((K[pos]'h).toNat / 8 == 30 && (decide (pos + 1 < K.size) && (K.get! (pos + 1)).toNat / 64 == 2) && (decide (pos + 2 < K.size) && (K.get! (pos + 2)).toNat / 64 == 2) && (decide (pos + 3 < K.size) && (K.get! (pos + 3)).toNat / 64 == 2)) = true
  · rw [if_pos c4]
    simp only [Bool.and_eq_true, decide_eq_true_eq, beq_iff_eq] at c4
    have h1 : 128 ≤ (K.get! (pos + 1)).toNat := by omega
    have h2 : 128 ≤ (K.get! (pos + 2)).toNat := by omega
    have h3 : 128 ≤ (K.get! (pos + 3)).toNat := by omega
    split
    · refine ⟨by show pos + 4 ≤ K.size; omega, fun i hi => ?_⟩
      have hi2 : i = 0 ∨ i = 1 ∨ i = 2 ∨ i = 3 := by have : i < 4 := hi; omega
      rcases hi2 with rfl | rfl | rfl | rfl
      · exact h0
      · exact h1
      · exact h2
      · exact h3
    · exact ⟨by show pos + 1 ≤ K.size; omega, one⟩
  rw [if_neg c4]
  exact ⟨by show pos + 1 ≤ K.size; omega, one⟩
theorem all_rune {ks : List UInt8} {K : ByteArray} (hK : (⟨ks.toArray⟩ : ByteArray) = K) {pos : Nat} (h : pos < K.size) (m M : Mn) (l : List Od4) (hM : allM m (ks.take pos) = (M, l)) :
    1 ≤ (Utf8.decode K pos).2 ∧ pos + (Utf8.decode K pos).2 ≤ K.size ∧ allM m (ks.take (pos + (Utf8.decode K pos).2)) = ((pressM M ((Utf8.decode K pos).1 : Int)).m, if (pressM M ((Utf8.decode K pos).1 : Int)).t = true then l ++ [((pressM M ((Utf8.decode K pos).1 : Int)).k, (pressM M ((Utf8.decode K pos).1 : Int)).n, (pressM M ((Utf8.decode K pos).1 : Int)).d, (pressM M ((Utf8.decode K pos).1 : Int)).v)] else l) := by
  have hsz := txt_size hK
  have hl : pos < ks.length := by omega
  have hb : (K[pos]'h) = ks[pos] := by subst hK; rfl
  by_cases ha : (K[pos]'h).toNat < 128
  · have e := decode_ascii K pos h ha
    rw [e]
    refine ⟨Nat.le_refl _, by show pos + 1 ≤ K.size; omega, ?_⟩
    show allM m (ks.take (pos + 1)) = _
    rw [allM_take hl, hM, hb]
  · have ha' : 128 ≤ (K[pos]'h).toNat := by omega
    obtain ⟨d1, d2⟩ := decode_high K pos h ha'
    obtain ⟨d3, d4⟩ := dec_wide K pos h ha'
    refine ⟨d2, d3, ?_⟩
    have hp : pressM M ((Utf8.decode K pos).1 : Int) = noP M := press_high M (by omega)
    rw [hp]
    have e : ks.take (pos + (Utf8.decode K pos).2) = ks.take pos ++ (ks.drop pos).take (Utf8.decode K pos).2 := by rw [List.take_add]
    rw [e, allM_app, hM]
    dsimp only
    rw [all_high _ M (fun x hx => by
      obtain ⟨i, hi, rfl⟩ := List.getElem_of_mem hx
      have hi1 : i < (Utf8.decode K pos).2 := by simp at hi; omega
      have hi2 : pos + i < ks.length := by omega
      have h5 := d4 i hi1
      have h6 : (ks.drop pos |>.take (Utf8.decode K pos).2)[i] = ks[pos + i] := by rw [List.getElem_take, List.getElem_drop]
      rw [h6]
      have h7 : K.get! (pos + i) = ks[pos + i] := by
        subst hK
        have hs : pos + i < (⟨ks.toArray⟩ : ByteArray).size := by rw [hsz]; exact hi2
        simp [ByteArray.get!, getElem!_pos, hi2]
      rw [← h7]
      exact h5)]
    dsimp only [noP]
    rw [List.append_nil]
    rfl
theorem dec_max (K : ByteArray) (pos : Nat) : (Utf8.decode K pos).1 ≤ 2147483647 := decode_le K pos
end Go.Proofs.YtfhhnelffldggaaGreatDoor
