/-
  The cells' functions of the specification: contracts.
-/
import Derived.Test.YtgpdkodnggpkeaaImpl6
import Derived.Laws.AppendOwnNone
namespace Go.Proofs.Ytgpdkodnggpkeaa
open Go.RowKit Go.PlainAid
set_option linter.unusedVariables false

/-- where the cell at of a region lies, -1 where there is none -/
def atP (n : Nat) (f s p : Int) : Int := if 0 ≤ p ∧ p < (cutN n f s : Int) then f + p else -1
theorem atP_yes {n : Nat} {f s p : Int} (h0 : 0 ≤ p) (h1 : p < s) (h2 : 0 ≤ f) (h3 : f ≤ (n : Int) - 1) (h4 : p < (n : Int) - f) : atP n f s p = f + p := by
  have hc := cutN_yes (n := n) (f := f) (s := s) (by omega)
  unfold atP
  rw [hc, if_pos (by omega)]
theorem atP_no {n : Nat} {f s p : Int} (h : ¬ (0 ≤ p ∧ p < s ∧ 0 ≤ f ∧ f ≤ (n : Int) - 1 ∧ p < (n : Int) - f)) : atP n f s p = -1 := by
  unfold atP
  by_cases hc : s < 1 ∨ f < 0 ∨ (n : Int) < f
  · rw [cutN_no hc, if_neg (by omega)]
  · rw [cutN_yes hc, if_neg (by omega)]

theorem own_built3 (w : World) (B : Nat) (hB : B ≤ w.heap.size) : (w.alloc (.cells #[] 3)).ownsRow B 3 1 (.slice (some ⟨w.heap.size, 0, none⟩) 0 0) 0 [] :=
  ⟨rfl, Or.inr ⟨_, 0, #[], rfl, hB, by show (w.heap.push _)[w.heap.size]? = _; simp, Nat.le_refl _, by decide, rfl, rfl⟩⟩

theorem own_lt {w : World} {B e z n : Nat} {v : Value} {xs : List Value} (h : w.ownsRow B e z v n xs) : ∀ g, v.ownBlock = some g → g < w.heap.size := fun k hk => (h.lt k hk).2
theorem own_ge {w : World} {B e z n : Nat} {v : Value} {xs : List Value} (h : w.ownsRow B e z v n xs) : ∀ g, v.ownBlock = some g → B ≤ g := fun k hk => (h.lt k hk).1
/-- what lies below the line stays owned -/
theorem own_keep {w w' : World} {B C e z n : Nat} {v : Value} {xs : List Value} (h : w.ownsRow B e z v n xs) (hb : Below C w w') (hlt : ∀ g, v.ownBlock = some g → g < C) : w'.ownsRow B e z v n xs := by
  refine ⟨h.1, ?_⟩
  rcases h.2 with h2 | ⟨g, cap, cur, rfl, hg, hh, h3⟩
  · exact .inl h2
  · exact .inr ⟨g, cap, cur, rfl, hg, by rw [hb.block g (hlt g rfl)]; exact hh, h3⟩
theorem own_mono {w : World} {B C e z n : Nat} {v : Value} {xs : List Value} (h : w.ownsRow B e z v n xs) (hC : C ≤ B) : w.ownsRow C e z v n xs := by
  refine ⟨h.1, ?_⟩
  rcases h.2 with h2 | ⟨g, cap, cur, rfl, hg, h3⟩
  · exact .inl h2
  · exact .inr ⟨g, cap, cur, rfl, by omega, h3⟩
theorem own_shape {w : World} {B e z n : Nat} {v : Value} {xs : List Value} (h : w.ownsRow B e z v n xs) : ∃ a cap, v = .slice a n cap := by
  rcases h.2 with ⟨rfl, e⟩ | ⟨g, cap, cur, rfl, _⟩
  · exact ⟨none, 0, by rw [e]⟩
  · exact ⟨_, cap, rfl⟩
theorem own_setOther {w : World} {B e z n k i : Nat} {v x : Value} {xs : List Value} (h : w.ownsRow B e z v n xs) (hk : ∀ g, v.ownBlock = some g → g ≠ k) : (w.setCell ⟨k, i, none⟩ x).ownsRow B e z v n xs := by
  refine ⟨h.1, ?_⟩
  rcases h.2 with h2 | ⟨g, cap, cur, rfl, hg, hh, h3⟩
  · exact .inl h2
  · exact .inr ⟨g, cap, cur, rfl, hg, set_other hh (hk g rfl), h3⟩

/-- a block stays behind what only grows, and writes another one -/
theorem grown_row {w w' : World} {r : Option Nat} {k : Nat} {o : Obj} (hg : w.grownBy w' r) (h : w.heap[k]? = some o) (hne : r ≠ some k) : w'.heap[k]? = some o :=
  (hg.block k (row_lt h) (fun e => hne e.symm)).trans h

end Go.Proofs.Ytgpdkodnggpkeaa
