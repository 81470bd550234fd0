/-
  What a run costs: the mathematics.
-/
import Derived.Test.YthnocibkgpofnaaStepI
import Derived.Test.YthnocibkgpofnaaCost
namespace Go.Proofs.Ythnocibkgpofnaa
open Go.RowKit Go.PlainAid
set_option linter.unusedVariables false
theorem cpuR_pc {pc p : Int} {l : List Int} (h : CpuR pc l) (h0 : 0 ≤ p) (h1 : p ≤ 60) : CpuR p l := ⟨h.1, ⟨h0, h1⟩, h.2.2⟩
theorem cpuR_put {pc p : Int} {l : List Int} {y : Int} (h : CpuR pc l) (h0 : 0 ≤ p) (h1 : p ≤ 60) (hl : l.length + 1 ≤ 8) (hy : isW y) : CpuR p (l ++ [y]) := by
  refine ⟨by simp; omega, ⟨h0, h1⟩, fun i hi => ?_⟩
  by_cases hlt : i < l.length
  · rw [List.getElem_append_left hlt]; exact h.2.2 i hlt
  · have : i = l.length := by simp at hi; omega
    subst this
    simp
    exact hy
def RightOk (R : Res) : Prop := R.tr = 0 → CpuR R.pc R.st
theorem rightOk_ite {p : Prop} [Decidable p] {R Q : Res} (h1 : p → RightOk R) (h2 : ¬ p → RightOk Q) : RightOk (if p then R else Q) := by
  split
  · rename_i h; exact h1 h
  · rename_i h; exact h2 h
theorem rightOk_trap (pc : Int) (st ce : List Int) (c : Int) (hc : c ≠ 0) : RightOk (trapR pc st ce c) := fun h => absurd h hc
set_option maxRecDepth 100000 in
set_option maxHeartbeats 1000000 in
theorem stepV_right {pc : Int} {st ce : List Int} {f s t op arg : Int} (hc : CpuR pc st) (hp : pc + 1 ≤ 60) (ha : 0 ≤ arg ∧ arg ≤ 255) (ho : 0 ≤ op) : RightOk (stepV pc st ce f s t op arg) := by
  have h0 := hc.2.1.1
  have h8 := hc.1
  have hu := cpuR_take hc (st.length - needs op)
  have hul : (st.take (st.length - needs op)).length = st.length - needs op := by rw [List.length_take]; omega
  have hm0 : 0 ≤ min arg 60 := by omega
  have hm1 : min arg 60 ≤ 60 := by omega
  unfold stepV
  refine rightOk_ite (fun _ => rightOk_trap _ _ _ _ (by decide)) (fun hbig => ?_)
  refine rightOk_ite (fun _ => rightOk_trap _ _ _ _ (by decide)) (fun hlow => ?_)
  generalize hU : st.take (st.length - needs op) = u at *
  unfold doV
  refine rightOk_ite (fun _ _ => cpuR_pc hu (by show 0 ≤ pc + 1; omega) hp) (fun n0 => ?_)
  refine rightOk_ite (fun e1 => rightOk_ite (fun _ => rightOk_trap _ _ _ _ (by decide)) (fun e8 _ => cpuR_put hu (by show 0 ≤ pc + 1; omega) hp (by omega) (isW_mod _))) (fun n1 => ?_)
  refine rightOk_ite (fun e2 => rightOk_ite (fun _ _ => cpuR_put hu (by show 0 ≤ pc + 1; omega) hp (by subst e2; have : needs 2 = 1 := rfl; omega) (isW_mod _)) (fun _ => rightOk_trap _ _ _ _ (by decide))) (fun n2 => ?_)
  refine rightOk_ite (fun e3 => rightOk_ite (fun _ _ => cpuR_pc hu (by show 0 ≤ pc + 1; omega) hp) (fun _ => rightOk_trap _ _ _ _ (by decide))) (fun n3 => ?_)
  refine rightOk_ite (fun e4 _ => cpuR_put hu (by show 0 ≤ pc + 1; omega) hp (by subst e4; have : needs 4 = 2 := rfl; omega) (isW_mod _)) (fun n4 => ?_)
  refine rightOk_ite (fun e5 _ => cpuR_put hu (by show 0 ≤ pc + 1; omega) hp (by subst e5; have : needs 5 = 2 := rfl; omega) (isW_mod _)) (fun n5 => ?_)
  refine rightOk_ite (fun e6 _ => cpuR_put hu (by show 0 ≤ pc + 1; omega) hp (by subst e6; have : needs 6 = 2 := rfl; omega) (isW_mod _)) (fun n6 => ?_)
  refine rightOk_ite (fun e7 => rightOk_ite (fun _ => rightOk_trap _ _ _ _ (by decide)) (fun _ _ => cpuR_put hu (by show 0 ≤ pc + 1; omega) hp (by subst e7; have : needs 7 = 2 := rfl; omega) (isW_mod _))) (fun n7 => ?_)
  refine rightOk_ite (fun e8 _ => cpuR_put hu (by show 0 ≤ pc + 1; omega) hp (by subst e8; have : needs 8 = 2 := rfl; omega) (isW_mod _)) (fun n8 => ?_)
  refine rightOk_ite (fun e9 _ => cpuR_pc hu hm0 hm1) (fun n9 => ?_)
  refine rightOk_ite (fun e10 _ => cpuR_pc hu (by show 0 ≤ (if st.getD (st.length - 1) 0 = 0 then min arg 60 else pc + 1); split <;> omega) (by show (if st.getD (st.length - 1) 0 = 0 then min arg 60 else pc + 1) ≤ 60; split <;> omega)) (fun n10 => ?_)
  refine rightOk_ite (fun e11 => rightOk_ite (fun _ => rightOk_trap _ _ _ _ (by decide)) (fun e8 _ => cpuR_put (cpuR_put (p := pc + 1) hu (by omega) hp (by subst e11; have : needs 11 = 1 := rfl; omega) (isW_mod _)) (by show 0 ≤ pc + 1; omega) hp (by simp; subst e11; have : needs 11 = 1 := rfl; omega) (isW_mod _))) (fun n11 => ?_)
  refine rightOk_ite (fun e12 _ => cpuR_pc hu (by show 0 ≤ pc + 1; omega) hp) (fun n12 => ?_)
  refine rightOk_ite (fun e13 _ => cpuR_pc hu (by show 0 ≤ pc + 1; omega) hp) (fun n13 => ?_)
  refine rightOk_ite (fun e14 _ => cpuR_pc hu (by show 0 ≤ pc + 1; omega) hp) (fun n14 => ?_)
  refine rightOk_ite (fun e15 _ => cpuR_pc hu (by show 0 ≤ pc + 1; omega) hp) (fun n15 => ?_)
  refine rightOk_ite (fun e16 _ => cpuR_pc hu (by show 0 ≤ pc + 1; omega) hp) (fun n16 => ?_)
  exact rightOk_ite (fun _ => rightOk_trap _ _ _ _ (by decide)) (fun e8 _ => cpuR_put hu (by show 0 ≤ pc + 1; omega) hp (by omega) (isW_mod _))
theorem stepR_right {b : Bool} {pc : Int} {st : List Int} {rl : List (Int × Int)} {ce : List Int} {f s t : Int} {R : Res} {nc : Nat} (hlc : rl.length = nc) (hB : b = true ↔ (CpuR pc st ∧ I.CodeR rl ∧ pc < (nc : Int))) (hR : stepR b pc st rl ce f s t = R) (h0 : R.tr = 0) : CpuR R.pc R.st := by
  subst hR
  unfold stepR cpuV at h0 ⊢
  cases b
  · exact absurd h0 (show (6 : Int) ≠ 0 by decide)
  · obtain ⟨hc, hk, hp⟩ := hB.1 rfl
    obtain ⟨j, rfl⟩ := Int.eq_ofNat_of_zero_le hc.2.1.1
    have hj : j < rl.length := by omega
    have hb := hk.2 j hj
    have h60 := hk.1
    have e : opAt' rl (j : Int) = rl[j] := by
      unfold opAt'
      rw [Int.toNat_natCast, List.getD_eq_getElem?_getD, List.getElem?_eq_getElem hj]
      rfl
    rw [e] at h0 ⊢
    exact stepV_right hc (by omega) hb.2 hb.1.1 h0
theorem stepR_trap {b : Bool} {pc : Int} {st : List Int} {rl : List (Int × Int)} {ce : List Int} {f s t : Int} {R : Res} (hR : stepR b pc st rl ce f s t = R) (h0 : R.tr ≠ 0) : R = trapR pc st ce R.tr := by
  subst hR
  unfold stepR cpuV at h0 ⊢
  cases b
  · rfl
  · exact stepV_trap rfl h0

/-- how many answers there are -/
def ansN (k : Int) : Nat := if k = 14 then 2 else if k = 13 ∨ k = 15 then 1 else 0
/-- so many answers of 0 put on a stack, and whether there was room -/
def putA : Nat → List Int → List Int × Bool
  | 0, st => (st, true)
  | k + 1, st => if st.length = 8 then (st, false) else putA k (st ++ [0])
theorem putA_zero (st : List Int) : putA 0 st = (st, true) := rfl
theorem putA_full {k : Nat} {st : List Int} (h : st.length = 8) : putA (k + 1) st = (st, false) := by
  rw [putA, if_pos h]
theorem putA_more {k : Nat} {st : List Int} (h : st.length ≠ 8) : putA (k + 1) st = putA k (st ++ [0]) := by
  rw [putA, if_neg h]
theorem isW_zero : isW 0 := ⟨by decide, by decide⟩
theorem putA_right {pc : Int} : ∀ (k : Nat) (st : List Int), CpuR pc st → CpuR pc (putA k st).1
  | 0, st, h => h
  | k + 1, st, h => by
      by_cases h8 : st.length = 8
      · rw [putA_full h8]; exact h
      · rw [putA_more h8]; exact putA_right k _ (cpuR_put h h.2.1.1 h.2.1.2 (by have := h.1; omega) isW_zero)
/-- the trap and the stack behind a step and its answers -/
def aloTr (R : Res) : Int := if (putA (ansN R.k) R.st).2 then R.tr else 4
def aloSt (R : Res) : List Int := (putA (ansN R.k) R.st).1
theorem alo_trap {pc : Int} {st ce : List Int} {R : Res} (h : R = trapR pc st ce R.tr) : aloTr R = R.tr ∧ aloSt R = st := by
  have hk : R.k = 0 := by rw [h]; rfl
  have hs : R.st = st := by rw [h]; rfl
  unfold aloTr aloSt
  rw [hk, hs]
  exact ⟨rfl, rfl⟩
/-- what a run costs, with k steps at most -/
def runR (c : Bool) (rl : List (Int × Int)) (f s most : Int) : Nat → Int → List Int → List Int → Int → Int × Int
  | 0, _, _, _, cost => (cost, 0)
  | k + 1, pc, st, ce, cost =>
    if (rl.length : Int) ≤ pc then (cost, 0)
    else if most < cost + costN (opAt' rl pc).1 then (cost, 0)
    else if aloTr (stepR c pc st rl ce f s 0) ≠ 0 ∨ (opAt' rl pc).1 = 0 then (cost + costN (opAt' rl pc).1, aloTr (stepR c pc st rl ce f s 0))
    else runR c rl f s most k (stepR c pc st rl ce f s 0).pc (aloSt (stepR c pc st rl ce f s 0)) (stepR c pc st rl ce f s 0).ce (cost + costN (opAt' rl pc).1)
section
variable {c : Bool} {rl : List (Int × Int)} {f s most pc cost : Int} {st ce : List Int} {k : Nat} {R : Res} {op co : Int}
theorem run_zero : runR c rl f s most 0 pc st ce cost = (cost, 0) := rfl
theorem run_end (h : (rl.length : Int) ≤ pc) : runR c rl f s most k pc st ce cost = (cost, 0) := by
  cases k
  · rfl
  · rw [runR, if_pos h]
theorem run_dear (hc : costN (opAt' rl pc).1 = co) (h : most < cost + co) : runR c rl f s most k pc st ce cost = (cost, 0) := by
  subst hc
  cases k
  · rfl
  · rw [runR]
    by_cases h1 : (rl.length : Int) ≤ pc
    · rw [if_pos h1]
    · rw [if_neg h1, if_pos h]
theorem run_stop (hR : stepR c pc st rl ce f s 0 = R) (ho : (opAt' rl pc).1 = op) (hc : costN op = co) (h1 : ¬ (rl.length : Int) ≤ pc) (h2 : ¬ most < cost + co) (h3 : aloTr R ≠ 0 ∨ op = 0) : runR c rl f s most (k + 1) pc st ce cost = (cost + co, aloTr R) := by
  subst hR hc ho
  rw [runR, if_neg h1, if_neg h2, if_pos h3]
theorem run_go (hR : stepR c pc st rl ce f s 0 = R) (ho : (opAt' rl pc).1 = op) (hc : costN op = co) (h1 : ¬ (rl.length : Int) ≤ pc) (h2 : ¬ most < cost + co) (h3 : aloTr R = 0) (h4 : op ≠ 0) : runR c rl f s most (k + 1) pc st ce cost = runR c rl f s most k R.pc (aloSt R) R.ce (cost + co) := by
  subst hR hc ho
  rw [runR, if_neg h1, if_neg h2, if_neg (fun h => h.elim (fun h => h h3) h4)]
end

/-- where a step goes on, and what it asks for -/
def GoOk (pc op arg : Int) (R : Res) : Prop := R.tr = 0 → ((R.pc = pc + 1 ∧ op ≠ 9) ∨ ((op = 9 ∨ op = 10) ∧ R.pc = min arg 60)) ∧ ansN R.k = ansN op
theorem goOk_ite {pc op arg : Int} {p : Prop} [Decidable p] {R Q : Res} (h1 : p → GoOk pc op arg R) (h2 : ¬ p → GoOk pc op arg Q) : GoOk pc op arg (if p then R else Q) := by
  split
  · rename_i h; exact h1 h
  · rename_i h; exact h2 h
theorem goOk_trap (pc op arg : Int) (st ce : List Int) (c : Int) (hc : c ≠ 0) : GoOk pc op arg (trapR pc st ce c) := fun h => absurd h hc
theorem ansN_none {op : Int} (h : op ≠ 13) (h' : op ≠ 14) (h'' : op ≠ 15) : ansN 0 = ansN op := by
  unfold ansN
  rw [if_neg (by decide), if_neg (by decide), if_neg h', if_neg (by omega)]
theorem goOk_next {pc op arg : Int} {st ce : List Int} (h9 : op ≠ 9) (h : op ≠ 13) (h' : op ≠ 14) (h'' : op ≠ 15) : GoOk pc op arg (okR (pc + 1) st ce) := fun _ => ⟨.inl ⟨rfl, h9⟩, ansN_none h h' h''⟩
set_option maxRecDepth 100000 in
set_option maxHeartbeats 1000000 in
theorem stepV_go {pc : Int} {st ce : List Int} {f s t op arg : Int} : GoOk pc op arg (stepV pc st ce f s t op arg) := by
  unfold stepV
  refine goOk_ite (fun _ => goOk_trap _ _ _ _ _ _ (by decide)) (fun hbig => ?_)
  refine goOk_ite (fun _ => goOk_trap _ _ _ _ _ _ (by decide)) (fun hlow => ?_)
  unfold doV
  refine goOk_ite (fun e => goOk_next (by omega) (by omega) (by omega) (by omega)) (fun n0 => ?_)
  refine goOk_ite (fun e => goOk_ite (fun _ => goOk_trap _ _ _ _ _ _ (by decide)) (fun _ => goOk_next (by omega) (by omega) (by omega) (by omega))) (fun n1 => ?_)
  refine goOk_ite (fun e => goOk_ite (fun _ => goOk_next (by omega) (by omega) (by omega) (by omega)) (fun _ => goOk_trap _ _ _ _ _ _ (by decide))) (fun n2 => ?_)
  refine goOk_ite (fun e => goOk_ite (fun _ => goOk_next (by omega) (by omega) (by omega) (by omega)) (fun _ => goOk_trap _ _ _ _ _ _ (by decide))) (fun n3 => ?_)
  refine goOk_ite (fun e => goOk_next (by omega) (by omega) (by omega) (by omega)) (fun n4 => ?_)
  refine goOk_ite (fun e => goOk_next (by omega) (by omega) (by omega) (by omega)) (fun n5 => ?_)
  refine goOk_ite (fun e => goOk_next (by omega) (by omega) (by omega) (by omega)) (fun n6 => ?_)
  refine goOk_ite (fun e => goOk_ite (fun _ => goOk_trap _ _ _ _ _ _ (by decide)) (fun _ => goOk_next (by omega) (by omega) (by omega) (by omega))) (fun n7 => ?_)
  refine goOk_ite (fun e => goOk_next (by omega) (by omega) (by omega) (by omega)) (fun n8 => ?_)
  refine goOk_ite (fun e _ => ⟨.inr ⟨.inl e, rfl⟩, ansN_none (by omega) (by omega) (by omega)⟩) (fun n9 => ?_)
  refine goOk_ite (fun e _ => ⟨?_, ansN_none (by omega) (by omega) (by omega)⟩) (fun n10 => ?_)
  · show ((if st.getD (st.length - 1) 0 = 0 then min arg 60 else pc + 1) = pc + 1 ∧ op ≠ 9) ∨ ((op = 9 ∨ op = 10) ∧ (if st.getD (st.length - 1) 0 = 0 then min arg 60 else pc + 1) = min arg 60)
    by_cases h : st.getD (st.length - 1) 0 = 0
    · rw [if_pos h]; exact .inr ⟨.inr e, rfl⟩
    · rw [if_neg h]; exact .inl ⟨rfl, n9⟩
  refine goOk_ite (fun e => goOk_ite (fun _ => goOk_trap _ _ _ _ _ _ (by decide)) (fun _ => goOk_next (by omega) (by omega) (by omega) (by omega))) (fun n11 => ?_)
  refine goOk_ite (fun e => goOk_next (by omega) (by omega) (by omega) (by omega)) (fun n12 => ?_)
  refine goOk_ite (fun e _ => ⟨.inl ⟨rfl, n9⟩, by rw [e]⟩) (fun n13 => ?_)
  refine goOk_ite (fun e _ => ⟨.inl ⟨rfl, n9⟩, by rw [e]⟩) (fun n14 => ?_)
  refine goOk_ite (fun e _ => ⟨.inl ⟨rfl, n9⟩, by rw [e]⟩) (fun n15 => ?_)
  refine goOk_ite (fun e _ => ⟨.inl ⟨rfl, n9⟩, by rw [e]⟩) (fun n16 => ?_)
  exact goOk_ite (fun _ => goOk_trap _ _ _ _ _ _ (by decide)) (fun _ => goOk_next (by omega) (by omega) (by omega) (by omega))
theorem stepR_go {c : Bool} {pc : Int} {st : List Int} {rl : List (Int × Int)} {ce : List Int} {f s t : Int} {R : Res} (hR : stepR c pc st rl ce f s t = R) : GoOk pc (opAt' rl pc).1 (opAt' rl pc).2 R := by
  subst hR
  unfold stepR cpuV
  cases c
  · exact goOk_trap _ _ _ _ _ _ (by decide)
  · exact stepV_go
end Go.Proofs.Ythnocibkgpofnaa
