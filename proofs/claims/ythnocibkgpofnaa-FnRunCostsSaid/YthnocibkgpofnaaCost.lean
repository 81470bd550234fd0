/-
  What an instruction costs: the contracts of the program's and of the specification's.
-/
import Derived.Test.YthnocibkgpofnaaBase
namespace Go.Proofs.Ythnocibkgpofnaa
open Go.RowKit Go.PlainAid
set_option linter.unusedVariables false

def costN (op : Int) : Int := if op = 2 ∨ op = 3 ∨ op = 15 ∨ op = 16 then 2 else if op = 6 ∨ op = 7 then 3 else if op = 13 ∨ op = 14 then 4 else 1
theorem costN_bd (op : Int) : 1 ≤ costN op ∧ costN op ≤ 4 := by
  unfold costN
  by_cases h1 : op = 2 ∨ op = 3 ∨ op = 15 ∨ op = 16
  · rw [if_pos h1]; decide
  · rw [if_neg h1]
    by_cases h2 : op = 6 ∨ op = 7
    · rw [if_pos h2]; decide
    · rw [if_neg h2]
      by_cases h3 : op = 13 ∨ op = 14
      · rw [if_pos h3]; decide
      · rw [if_neg h3]; decide
theorem cost_ways (op : Int) : (op = 2 ∨ op = 3 ∨ op = 15 ∨ op = 16 ∨ op = 6 ∨ op = 7 ∨ op = 13 ∨ op = 14) ∨ ((op == 2) = false ∧ (op == 3) = false ∧ (op == 15) = false ∧ (op == 16) = false ∧ (op == 6) = false ∧ (op == 7) = false ∧ (op == 13) = false ∧ (op == 14) = false ∧ costN op = 1) := by
  by_cases h : op = 2 ∨ op = 3 ∨ op = 15 ∨ op = 16 ∨ op = 6 ∨ op = 7 ∨ op = 13 ∨ op = 14
  · exact .inl h
  · refine .inr ?_
    simp only [beq_eq_false_iff_ne, ne_eq]
    refine ⟨by omega, by omega, by omega, by omega, by omega, by omega, by omega, by omega, ?_⟩
    unfold costN
    rw [if_neg (by omega), if_neg (by omega), if_neg (by omega)]

theorem costI (op : Int) (w : World) : Calls Try.prog 33 #[.int .i64 op] w fun e w' => e = .returned (.int .i64 (costN op)) ∧ w' = w := by
  rcases cost_ways op with (rfl | rfl | rfl | rfl | rfl | rfl | rfl | rfl) | ⟨h1, h2, h3, h4, h5, h6, h7, h8, h9⟩
  all_goals
    go_enter Try.func33, Try.ntmps33
    go_wp2
    go_ret
    first | exact ⟨rfl, rfl⟩ | exact ⟨by rw [h9]; rfl, rfl⟩

theorem costS (op : Int) (w : World) : Calls Try.prog 27 #[.int .i64 op] w fun e w' => e = .returned (.int .i64 (costN op)) ∧ w' = w := by
  rcases cost_ways op with (rfl | rfl | rfl | rfl | rfl | rfl | rfl | rfl) | ⟨h1, h2, h3, h4, h5, h6, h7, h8, h9⟩
  all_goals
    go_enter Try.func27, Try.ntmps27
    go_wp2
    go_ret
    first | exact ⟨rfl, rfl⟩ | exact ⟨by rw [h9]; rfl, rfl⟩
end Go.Proofs.Ythnocibkgpofnaa
