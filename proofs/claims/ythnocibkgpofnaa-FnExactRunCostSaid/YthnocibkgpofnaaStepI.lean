/-
  A step of the program, whatever it is handed.
-/
import Derived.Test.YthnocibkgpofnaaStepE
namespace Go.Proofs.Ythnocibkgpofnaa
open Go.RowKit Go.PlainAid
set_option linter.unusedVariables false
/-- a trap leaves all as it was -/
def TrapOk (pc : Int) (st ce : List Int) (R : Res) : Prop := R.tr ≠ 0 → R = trapR pc st ce R.tr
theorem trapOk_trap (pc : Int) (st ce : List Int) (c : Int) : TrapOk pc st ce (trapR pc st ce c) := fun _ => rfl
theorem trapOk_none {pc : Int} {st ce : List Int} {R : Res} (h : R.tr = 0) : TrapOk pc st ce R := fun h' => absurd h h'
theorem trapOk_ite {pc : Int} {st ce : List Int} {p : Prop} [Decidable p] {R Q : Res} (h1 : TrapOk pc st ce R) (h2 : TrapOk pc st ce Q) : TrapOk pc st ce (if p then R else Q) := by
  split
  · exact h1
  · exact h2
theorem stepV_trap {pc : Int} {st ce : List Int} {f s t op arg : Int} {R : Res} (h : stepV pc st ce f s t op arg = R) : R.tr ≠ 0 → R = trapR pc st ce R.tr := by
  subst h
  show TrapOk pc st ce _
  unfold stepV doV
  repeat' apply trapOk_ite
  all_goals first | exact trapOk_trap _ _ _ _ | exact trapOk_none rfl
theorem step_bool (pc : Int) (st : List Int) (rl : List (Int × Int)) (nc : Nat) : ∃ b : Bool, b = true ↔ (CpuR pc st ∧ I.CodeR rl ∧ pc < (nc : Int)) := by
  by_cases hk : CpuR pc st ∧ I.CodeR rl ∧ pc < (nc : Int)
  · exact ⟨true, ⟨fun _ => hk, fun _ => rfl⟩⟩
  · exact ⟨false, ⟨fun h => (by cases h), fun h => absurd h hk⟩⟩
/-- the instruction at Pc -/
def opAt' (rl : List (Int × Int)) (pc : Int) : Int × Int := rl.getD pc.toNat (0, 0)
/-- what a step hands back, of whatever it is handed -/
def stepR (b : Bool) (pc : Int) (st : List Int) (rl : List (Int × Int)) (ce : List Int) (f s t : Int) : Res := cpuV b pc st ce f s t (opAt' rl pc).1 (opAt' rl pc).2
theorem stepI (qs : Option Addr) (pc : Int) (st : List Int) (n cp : Nat) (qc : Option Addr) (rl : List (Int × Int)) (nc cc : Nat) (qa : Option Addr) (ce : List Int) (m ca : Nat) (f s t : Int) (b : Bool) (R : Res) (N : Nat) (hl : st.length = n) (hn : n ≤ 1048576) (hlc : rl.length = nc) (hnc : nc ≤ 1048576) (hla : ce.length = m) (hm : m ≤ 1048576) (hb : b = true ↔ (CpuR pc st ∧ I.CodeR rl ∧ pc < (nc : Int))) (hR : stepR b pc st rl ce f s t = R) (hN : R.st.length = N) (w : World) (hr : Rd w qs st) (hrc : I.RdR w qc rl) (hra : Rd w qa ce) :
    Calls Try.prog 60 #[.agg #[.int .i64 pc, .slice qs n cp], .slice qc nc cc, .agg #[.slice qa m ca], .agg #[.int .i64 f, .int .i64 s], .int .i64 t] w (StepPost w m R N) := by
  cases b
  · have hno : ¬ (CpuR pc st ∧ I.CodeR rl ∧ pc < (nc : Int)) := fun h => by have := hb.2 h; cases this
    obtain rfl : trapR pc st ce 6 = R := hR
    obtain rfl : n = N := by rw [← hl]; exact hN
    exact stepN qs pc st n cp qc rl nc cc qa ce m ca f s t hl hn hlc hnc hla hm hno w hr hrc hra
  · obtain ⟨hc, hk, hp⟩ := hb.1 rfl
    obtain ⟨j, rfl⟩ := Int.eq_ofNat_of_zero_le hc.2.1.1
    have hj : j < nc := by omega
    have hx : rl[j]? = some ((opAt' rl (j : Int)).1, (opAt' rl (j : Int)).2) := by
      unfold opAt'
      rw [Int.toNat_natCast, List.getElem?_eq_getElem (by omega), List.getD_eq_getElem?_getD, List.getElem?_eq_getElem (by omega)]
      rfl
    exact stepY qs j st n cp qc rl nc cc j qa ce m ca f s t _ _ R N hl hlc hla hm hc hk rfl hj hx hR hN (stepV_trap hR) w hr hrc hra
end Go.Proofs.Ythnocibkgpofnaa
