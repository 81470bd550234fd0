/-
  The mathematics of FnGuards: no ten one behind the other are more than thirty.
-/
import Derived.Test.YtgpdkodnggpkeaaGdM
namespace Go.Proofs.Ytgpdkodnggpkeaa
open Go.RowKit Go.PlainAid
set_option linter.unusedVariables false

theorem sumN_rev (l : List Int) : sumN l.reverse = sumN l := by
  induction l with
  | nil => rfl
  | cons x l ih =>
    rw [List.reverse_cons, sumN_app, ih]
    simp only [sumN]
    omega
/-- all are of 0 .. 30, and no ten one behind the other are more than 30 -/
def AllR (l : List Int) : Prop := ∀ x ∈ l, 0 ≤ x ∧ x ≤ 30
theorem AllR.of {l : List Int} (h : AllR l) : ∀ i (h : i < l.length), 0 ≤ l[i] ∧ l[i] ≤ 30 := fun i hi => h _ (List.getElem_mem _)
theorem AllR.take {l : List Int} (h : AllR l) (m : Nat) : AllR (l.take m) := fun x hx => h x (List.mem_of_mem_take hx)
theorem AllR.drop {l : List Int} (h : AllR l) (m : Nat) : AllR (l.drop m) := fun x hx => h x (List.mem_of_mem_drop hx)
theorem allR_sum {l : List Int} (h : AllR l) : 0 ≤ sumN l ∧ sumN l ≤ 30 * l.length := sumN_bd h.of
theorem allR_cut {l : List Int} (h : AllR l) (m : Nat) : sumN (l.take m) ≤ sumN l := sumN_cut h.of m
def Win (R : List Int) : Prop := ∀ i, sumN ((R.drop i).take 10) ≤ 30
/-- what was passed, R, and what the guard keeps of it, l -/
structure Pas (R l : List Int) : Prop where
  all : AllR R
  win : Win R
  eq : l = R.reverse.take 9
  sum : sumN l ≤ 30
theorem drop_sum {R : List Int} (h : AllR R) (i : Nat) (hi : R.length - i ≤ 9) : sumN (R.drop i) ≤ sumN (R.reverse.take 9) := by
  have e : (R.drop i).reverse = R.reverse.take (R.length - i) := by
    rw [List.reverse_drop]
  have h1 : sumN (R.drop i) = sumN (R.reverse.take (R.length - i)) := by rw [← e, sumN_rev]
  rw [h1]
  have h2 : (R.reverse.take 9).take (R.length - i) = R.reverse.take (R.length - i) := by
    rw [List.take_take, Nat.min_eq_left hi]
  rw [← h2]
  exact allR_cut (fun x hx => h x (by have := List.mem_of_mem_take hx; simpa using this)) _
theorem pas_start {l : List Int} {al : Int} (h : GdR l al) : Pas l.reverse l := by
  have hall : AllR l := fun x hx => by
    obtain ⟨i, hi, rfl⟩ := List.getElem_of_mem hx
    exact h.2.2.1 i hi
  have hr : AllR l.reverse := fun x hx => hall x (by simpa using hx)
  refine ⟨hr, fun i => ?_, ?_, h.2.2.2⟩
  · have h1 := allR_cut (hr.drop i) 10
    have h2 : sumN (l.reverse.drop i) ≤ sumN l.reverse := by
      have e := sumN_app (l.reverse.take i) (l.reverse.drop i)
      rw [List.take_append_drop] at e
      have := (allR_sum (hr.take i)).1
      omega
    rw [sumN_rev] at h2
    have := h.2.2.2
    omega
  · rw [List.reverse_reverse, List.take_of_length_le h.1]
theorem pas_step {R l : List Int} (h : Pas R l) (hl : GdR l 0) (x : Int) : Pas (R ++ [letG l x]) ((letG l x :: l).take 9) := by
  have hv := letG_bd hl x
  have hp := pass_ok hl x
  obtain ⟨v, hve⟩ : ∃ v, letG l x = v := ⟨_, rfl⟩
  rw [hve] at hv hp ⊢
  have hall : AllR (R ++ [v]) := fun y hy => by
    rcases List.mem_append.1 hy with hy | hy
    · exact h.all y hy
    · rw [List.mem_singleton.1 hy]
      exact ⟨hv.1, hv.2.2⟩
  refine ⟨hall, fun i => ?_, ?_, hp.2.2.2⟩
  · by_cases hi : i + 10 ≤ R.length
    · have e : ((R ++ [v]).drop i).take 10 = (R.drop i).take 10 := by
        rw [List.drop_append_of_le_length (by omega), List.take_append_of_le_length (by rw [List.length_drop]; omega)]
      rw [e]
      exact h.win i
    · by_cases hi2 : i ≤ R.length
      · have h1 := allR_cut (hall.drop i) 10
        have e : (R ++ [v]).drop i = R.drop i ++ [v] := List.drop_append_of_le_length hi2
        have h2 : sumN ((R ++ [v]).drop i) = sumN (R.drop i) + v := by rw [e, sumN_app]; simp [sumN]
        have h3 := drop_sum h.all i (by omega)
        rw [← h.eq] at h3
        omega
      · have e : (R ++ [v]).drop i = [] := List.drop_eq_nil_of_le (by simp; omega)
        rw [e]
        simp [sumN]
  · rw [List.reverse_append, h.eq]
    simp [List.take_take]
theorem win_small {R : List Int} (h : AllR R) (i m : Nat) (hm : m ≤ 10) : 0 ≤ sumN ((R.drop i).take m) ∧ sumN ((R.drop i).take m) ≤ 300 := by
  have := allR_sum ((h.drop i).take m)
  have hl : ((R.drop i).take m).length ≤ 10 := by rw [List.length_take]; omega
  omega
theorem win_next {R : List Int} {i m : Nat} (h : i + m < R.length) : sumN ((R.drop i).take (m + 1)) = sumN ((R.drop i).take m) + R[i + m] := by
  have hd : m < (R.drop i).length := by rw [List.length_drop]; omega
  rw [sumN_take hd, List.getElem_drop]
theorem win_all {R : List Int} {i m : Nat} (h : Win R) (hm : m = 10 ∨ R.length ≤ i + m) (hm2 : m ≤ 10) : sumN ((R.drop i).take m) ≤ 30 := by
  have h1 := h i
  rcases hm with rfl | hm
  · exact h1
  · have e : (R.drop i).take m = (R.drop i).take 10 := by
      rw [List.take_of_length_le (by rw [List.length_drop]; omega), List.take_of_length_le (by rw [List.length_drop]; omega)]
    rw [e]
    exact h1
theorem rev_next {l : List Int} {j : Nat} (h : j < l.length) : (l.drop (j + 1)).reverse ++ [l[j]] = (l.drop j).reverse := by
  rw [← List.getElem_cons_drop h, List.reverse_cons]
end Go.Proofs.Ytgpdkodnggpkeaa
