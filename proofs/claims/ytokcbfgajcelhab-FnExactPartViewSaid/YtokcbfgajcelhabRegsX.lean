/-
  Lists of regions: whether they are right: the contracts of the program's and of the specification's.
-/
import Derived.Test.YtokcbfgajcelhabRegB
namespace Go.Proofs.Ytokcbfgajcelhab.R
open Go.RowKit Go.PlainAid
set_option linter.unusedVariables false

def regIn (f s : Int) : Prop := 0 ≤ f ∧ f ≤ 63 ∧ 1 ≤ s ∧ s ≤ 64 - f
def apart (f s f' s' : Int) : Prop := f + s ≤ f' ∨ f' + s' ≤ f
/-- right regions -/
def RegsOk (rl : List (Int × Int)) : Prop := 1 ≤ rl.length ∧ rl.length ≤ 4 ∧ (∀ i (h : i < rl.length), regIn rl[i].1 rl[i].2) ∧ ∀ i (h : i < rl.length) k (hk : k < i), apart rl[i].1 rl[i].2 (rl[k]'(by omega)).1 (rl[k]'(by omega)).2

def AllIn (rl : List (Int × Int)) (j : Nat) : Prop := ∀ i (h : i < rl.length), i < j → regIn rl[i].1 rl[i].2
def AllApart (rl : List (Int × Int)) (j : Nat) : Prop := ∀ i (h : i < rl.length) k (hk : k < i), i < j → apart rl[i].1 rl[i].2 (rl[k]'(by omega)).1 (rl[k]'(by omega)).2
def RowApart (rl : List (Int × Int)) (j k : Nat) : Prop := ∀ (h : j < rl.length) i (hi : i < j), i < k → apart rl[j].1 rl[j].2 (rl[i]'(by omega)).1 (rl[i]'(by omega)).2
theorem allIn_succ {rl : List (Int × Int)} {j : Nat} (h : AllIn rl j) (hj : j < rl.length) (hr : regIn rl[j].1 rl[j].2) : AllIn rl (j + 1) := fun i hi hlt => by
  by_cases e : i = j
  · subst e; exact hr
  · exact h i hi (by omega)
theorem rowApart_succ {rl : List (Int × Int)} {j k : Nat} (h : RowApart rl j k) (hj : j < rl.length) (hk : k < j) (hr : apart rl[j].1 rl[j].2 (rl[k]'(by omega)).1 (rl[k]'(by omega)).2) : RowApart rl j (k + 1) := fun h' i hi hlt => by
  by_cases e : i = k
  · subst e; exact hr
  · exact h h' i hi (by omega)
theorem allApart_succ {rl : List (Int × Int)} {j : Nat} (h : AllApart rl j) (hr : RowApart rl j j) : AllApart rl (j + 1) := fun i hi k hk hlt => by
  by_cases e : i = j
  · subst e; exact hr hi k hk hk
  · exact h i hi k hk (by omega)

end Go.Proofs.Ytokcbfgajcelhab.R
