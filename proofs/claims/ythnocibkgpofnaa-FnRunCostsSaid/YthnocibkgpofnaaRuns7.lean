/-
  What a run costs: the mathematics.
-/
import Derived.Test.YthnocibkgpofnaaStepI
import Derived.Test.YthnocibkgpofnaaCost
import Derived.Test.YthnocibkgpofnaaAl
import Derived.Test.YthnocibkgpofnaaSpecS
namespace Go.Proofs.Ythnocibkgpofnaa
open Go.RowKit Go.PlainAid
set_option linter.unusedVariables false
theorem cpuR_pc {pc p : Int} {l : List Int} (h : CpuR pc l) (h0 : 0 ≤ p) (h1 : p ≤ 60) : CpuR p l := ⟨h.1, ⟨h0, h1⟩, h.2.2⟩
theorem cpuR_put {pc p : Int} {l : List Int} {y : Int} (h : CpuR pc l) (h0 : 0 ≤ p) (h1 : p ≤ 60) (hl : l.length + 1 ≤ 8) (hy : isW y) : CpuR p (l ++ [y]) := by
  refine ⟨by simp; omega, ⟨h0, h1⟩, fun i hi => ?_⟩
  by_cases hlt : i < l.length
  · rw [List.getElem_append_left hlt]; exact h.2.2 i hlt
  · have : i = l.length := by simp at hi; omega
    subst this
    simp
    exact hy
def RightOk (R : Res) : Prop := R.tr = 0 → CpuR R.pc R.st
theorem rightOk_ite {p : Prop} [Decidable p] {R Q : Res} (h1 : p → RightOk R) (h2 : ¬ p → RightOk Q) : RightOk (if p then R else Q) := by
  split
  · rename_i h; exact h1 h
  · rename_i h; exact h2 h
theorem rightOk_trap (pc : Int) (st ce : List Int) (c : Int) (hc : c ≠ 0) : RightOk (trapR pc st ce c) := fun h => absurd h hc
set_option maxRecDepth 100000 in
set_option maxHeartbeats 1000000 in
theorem stepV_right {pc : Int} {st ce : List Int} {f s t op arg : Int} (hc : CpuR pc st) (hp : pc + 1 ≤ 60) (ha : 0 ≤ arg ∧ arg ≤ 255) (ho : 0 ≤ op) : RightOk (stepV pc st ce f s t op arg) := by
  have h0 := hc.2.1.1
  have h8 := hc.1
  have hu := cpuR_take hc (st.length - needs op)
  have hul : (st.take (st.length - needs op)).length = st.length - needs op := by rw [List.length_take]; omega
  have hm0 : 0 ≤ min arg 60 := by omega
  have hm1 : min arg 60 ≤ 60 := by omega
  unfold stepV
  refine rightOk_ite (fun _ => rightOk_trap _ _ _ _ (by decide)) (fun hbig => ?_)
  refine rightOk_ite (fun _ => rightOk_trap _ _ _ _ (by decide)) (fun hlow => ?_)
  generalize hU : st.take (st.length - needs op) = u at *
  unfold doV
  refine rightOk_ite (fun _ _ => cpuR_pc hu (by show 0 ≤ pc + 1; omega) hp) (fun n0 => ?_)
  refine rightOk_ite (fun e1 => rightOk_ite (fun _ => rightOk_trap _ _ _ _ (by decide)) (fun e8 _ => cpuR_put hu (by show 0 ≤ pc + 1; omega) hp (by omega) (isW_mod _))) (fun n1 => ?_)
  refine rightOk_ite (fun e2 => rightOk_ite (fun _ _ => cpuR_put hu (by show 0 ≤ pc + 1; omega) hp (by subst e2; have : needs 2 = 1 := rfl; omega) (isW_mod _)) (fun _ => rightOk_trap _ _ _ _ (by decide))) (fun n2 => ?_)
  refine rightOk_ite (fun e3 => rightOk_ite (fun _ _ => cpuR_pc hu (by show 0 ≤ pc + 1; omega) hp) (fun _ => rightOk_trap _ _ _ _ (by decide))) (fun n3 => ?_)
  refine rightOk_ite (fun e4 _ => cpuR_put hu (by show 0 ≤ pc + 1; omega) hp (by subst e4; have : needs 4 = 2 := rfl; omega) (isW_mod _)) (fun n4 => ?_)
  refine rightOk_ite (fun e5 _ => cpuR_put hu (by show 0 ≤ pc + 1; omega) hp (by subst e5; have : needs 5 = 2 := rfl; omega) (isW_mod _)) (fun n5 => ?_)
  refine rightOk_ite (fun e6 _ => cpuR_put hu (by show 0 ≤ pc + 1; omega) hp (by subst e6; have : needs 6 = 2 := rfl; omega) (isW_mod _)) (fun n6 => ?_)
  refine rightOk_ite (fun e7 => rightOk_ite (fun _ => rightOk_trap _ _ _ _ (by decide)) (fun _ _ => cpuR_put hu (by show 0 ≤ pc + 1; omega) hp (by subst e7; have : needs 7 = 2 := rfl; omega) (isW_mod _))) (fun n7 => ?_)
  refine rightOk_ite (fun e8 _ => cpuR_put hu (by show 0 ≤ pc + 1; omega) hp (by subst e8; have : needs 8 = 2 := rfl; omega) (isW_mod _)) (fun n8 => ?_)
  refine rightOk_ite (fun e9 _ => cpuR_pc hu hm0 hm1) (fun n9 => ?_)
  refine rightOk_ite (fun e10 _ => cpuR_pc hu (by show 0 ≤ (if st.getD (st.length - 1) 0 = 0 then min arg 60 else pc + 1); split <;> omega) (by show (if st.getD (st.length - 1) 0 = 0 then min arg 60 else pc + 1) ≤ 60; split <;> omega)) (fun n10 => ?_)
  refine rightOk_ite (fun e11 => rightOk_ite (fun _ => rightOk_trap _ _ _ _ (by decide)) (fun e8 _ => cpuR_put (cpuR_put (p := pc + 1) hu (by omega) hp (by subst e11; have : needs 11 = 1 := rfl; omega) (isW_mod _)) (by show 0 ≤ pc + 1; omega) hp (by simp; subst e11; have : needs 11 = 1 := rfl; omega) (isW_mod _))) (fun n11 => ?_)
  refine rightOk_ite (fun e12 _ => cpuR_pc hu (by show 0 ≤ pc + 1; omega) hp) (fun n12 => ?_)
  refine rightOk_ite (fun e13 _ => cpuR_pc hu (by show 0 ≤ pc + 1; omega) hp) (fun n13 => ?_)
  refine rightOk_ite (fun e14 _ => cpuR_pc hu (by show 0 ≤ pc + 1; omega) hp) (fun n14 => ?_)
  refine rightOk_ite (fun e15 _ => cpuR_pc hu (by show 0 ≤ pc + 1; omega) hp) (fun n15 => ?_)
  refine rightOk_ite (fun e16 _ => cpuR_pc hu (by show 0 ≤ pc + 1; omega) hp) (fun n16 => ?_)
  exact rightOk_ite (fun _ => rightOk_trap _ _ _ _ (by decide)) (fun e8 _ => cpuR_put hu (by show 0 ≤ pc + 1; omega) hp (by omega) (isW_mod _))
theorem stepR_right {b : Bool} {pc : Int} {st : List Int} {rl : List (Int × Int)} {ce : List Int} {f s t : Int} {R : Res} {nc : Nat} (hlc : rl.length = nc) (hB : b = true ↔ (CpuR pc st ∧ I.CodeR rl ∧ pc < (nc : Int))) (hR : stepR b pc st rl ce f s t = R) (h0 : R.tr = 0) : CpuR R.pc R.st := by
  subst hR
  unfold stepR cpuV at h0 ⊢
  cases b
  · exact absurd h0 (show (6 : Int) ≠ 0 by decide)
  · obtain ⟨hc, hk, hp⟩ := hB.1 rfl
    obtain ⟨j, rfl⟩ := Int.eq_ofNat_of_zero_le hc.2.1.1
    have hj : j < rl.length := by omega
    have hb := hk.2 j hj
    have h60 := hk.1
    have e : opAt' rl (j : Int) = rl[j] := by
      unfold opAt'
      rw [Int.toNat_natCast, List.getD_eq_getElem?_getD, List.getElem?_eq_getElem hj]
      rfl
    rw [e] at h0 ⊢
    exact stepV_right hc (by omega) hb.2 hb.1.1 h0
theorem stepR_trap {b : Bool} {pc : Int} {st : List Int} {rl : List (Int × Int)} {ce : List Int} {f s t : Int} {R : Res} (hR : stepR b pc st rl ce f s t = R) (h0 : R.tr ≠ 0) : R = trapR pc st ce R.tr := by
  subst hR
  unfold stepR cpuV at h0 ⊢
  cases b
  · rfl
  · exact stepV_trap rfl h0

/-- how many answers there are -/
def ansN (k : Int) : Nat := if k = 14 then 2 else if k = 13 ∨ k = 15 then 1 else 0
/-- so many answers of 0 put on a stack, and whether there was room -/
def putA : Nat → List Int → List Int × Bool
  | 0, st => (st, true)
  | k + 1, st => if st.length = 8 then (st, false) else putA k (st ++ [0])
theorem putA_zero (st : List Int) : putA 0 st = (st, true) := rfl
theorem putA_full {k : Nat} {st : List Int} (h : st.length = 8) : putA (k + 1) st = (st, false) := by
  rw [putA, if_pos h]
theorem putA_more {k : Nat} {st : List Int} (h : st.length ≠ 8) : putA (k + 1) st = putA k (st ++ [0]) := by
  rw [putA, if_neg h]
theorem isW_zero : isW 0 := ⟨by decide, by decide⟩
theorem putA_right {pc : Int} : ∀ (k : Nat) (st : List Int), CpuR pc st → CpuR pc (putA k st).1
  | 0, st, h => h
  | k + 1, st, h => by
      by_cases h8 : st.length = 8
      · rw [putA_full h8]; exact h
      · rw [putA_more h8]; exact putA_right k _ (cpuR_put h h.2.1.1 h.2.1.2 (by have := h.1; omega) isW_zero)
/-- the trap and the stack behind a step and its answers -/
def aloTr (R : Res) : Int := if (putA (ansN R.k) R.st).2 then R.tr else 4
def aloSt (R : Res) : List Int := (putA (ansN R.k) R.st).1
theorem alo_trap {pc : Int} {st ce : List Int} {R : Res} (h : R = trapR pc st ce R.tr) : aloTr R = R.tr ∧ aloSt R = st := by
  have hk : R.k = 0 := by rw [h]; rfl
  have hs : R.st = st := by rw [h]; rfl
  unfold aloTr aloSt
  rw [hk, hs]
  exact ⟨rfl, rfl⟩
/-- what a run costs, with k steps at most -/
def runR (c : Bool) (rl : List (Int × Int)) (f s most : Int) : Nat → Int → List Int → List Int → Int → Int × Int
  | 0, _, _, _, cost => (cost, 0)
  | k + 1, pc, st, ce, cost =>
    if (rl.length : Int) ≤ pc then (cost, 0)
    else if most < cost + costN (opAt' rl pc).1 then (cost, 0)
    else if aloTr (stepR c pc st rl ce f s 0) ≠ 0 ∨ (opAt' rl pc).1 = 0 then (cost + costN (opAt' rl pc).1, aloTr (stepR c pc st rl ce f s 0))
    else runR c rl f s most k (stepR c pc st rl ce f s 0).pc (aloSt (stepR c pc st rl ce f s 0)) (stepR c pc st rl ce f s 0).ce (cost + costN (opAt' rl pc).1)
section
variable {c : Bool} {rl : List (Int × Int)} {f s most pc cost : Int} {st ce : List Int} {k : Nat} {R : Res} {op co : Int}
theorem run_zero : runR c rl f s most 0 pc st ce cost = (cost, 0) := rfl
theorem run_end (h : (rl.length : Int) ≤ pc) : runR c rl f s most k pc st ce cost = (cost, 0) := by
  cases k
  · rfl
  · rw [runR, if_pos h]
theorem run_dear (hc : costN (opAt' rl pc).1 = co) (h : most < cost + co) : runR c rl f s most k pc st ce cost = (cost, 0) := by
  subst hc
  cases k
  · rfl
  · rw [runR]
    by_cases h1 : (rl.length : Int) ≤ pc
    · rw [if_pos h1]
    · rw [if_neg h1, if_pos h]
theorem run_stop (hR : stepR c pc st rl ce f s 0 = R) (ho : (opAt' rl pc).1 = op) (hc : costN op = co) (h1 : ¬ (rl.length : Int) ≤ pc) (h2 : ¬ most < cost + co) (h3 : aloTr R ≠ 0 ∨ op = 0) : runR c rl f s most (k + 1) pc st ce cost = (cost + co, aloTr R) := by
  subst hR hc ho
  rw [runR, if_neg h1, if_neg h2, if_pos h3]
theorem run_go (hR : stepR c pc st rl ce f s 0 = R) (ho : (opAt' rl pc).1 = op) (hc : costN op = co) (h1 : ¬ (rl.length : Int) ≤ pc) (h2 : ¬ most < cost + co) (h3 : aloTr R = 0) (h4 : op ≠ 0) : runR c rl f s most (k + 1) pc st ce cost = runR c rl f s most k R.pc (aloSt R) R.ce (cost + co) := by
  subst hR hc ho
  rw [runR, if_neg h1, if_neg h2, if_neg (fun h => h.elim (fun h => h h3) h4)]
end

/-- where a step goes on, and what it asks for -/
def GoOk (pc op arg : Int) (R : Res) : Prop := R.tr = 0 → ((R.pc = pc + 1 ∧ op ≠ 9) ∨ ((op = 9 ∨ op = 10) ∧ R.pc = min arg 60)) ∧ ansN R.k = ansN op
theorem goOk_ite {pc op arg : Int} {p : Prop} [Decidable p] {R Q : Res} (h1 : p → GoOk pc op arg R) (h2 : ¬ p → GoOk pc op arg Q) : GoOk pc op arg (if p then R else Q) := by
  split
  · rename_i h; exact h1 h
  · rename_i h; exact h2 h
theorem goOk_trap (pc op arg : Int) (st ce : List Int) (c : Int) (hc : c ≠ 0) : GoOk pc op arg (trapR pc st ce c) := fun h => absurd h hc
theorem ansN_none {op : Int} (h : op ≠ 13) (h' : op ≠ 14) (h'' : op ≠ 15) : ansN 0 = ansN op := by
  unfold ansN
  rw [if_neg (by decide), if_neg (by decide), if_neg h', if_neg (by omega)]
theorem goOk_next {pc op arg : Int} {st ce : List Int} (h9 : op ≠ 9) (h : op ≠ 13) (h' : op ≠ 14) (h'' : op ≠ 15) : GoOk pc op arg (okR (pc + 1) st ce) := fun _ => ⟨.inl ⟨rfl, h9⟩, ansN_none h h' h''⟩
set_option maxRecDepth 100000 in
set_option maxHeartbeats 1000000 in
theorem stepV_go {pc : Int} {st ce : List Int} {f s t op arg : Int} : GoOk pc op arg (stepV pc st ce f s t op arg) := by
  unfold stepV
  refine goOk_ite (fun _ => goOk_trap _ _ _ _ _ _ (by decide)) (fun hbig => ?_)
  refine goOk_ite (fun _ => goOk_trap _ _ _ _ _ _ (by decide)) (fun hlow => ?_)
  unfold doV
  refine goOk_ite (fun e => goOk_next (by omega) (by omega) (by omega) (by omega)) (fun n0 => ?_)
  refine goOk_ite (fun e => goOk_ite (fun _ => goOk_trap _ _ _ _ _ _ (by decide)) (fun _ => goOk_next (by omega) (by omega) (by omega) (by omega))) (fun n1 => ?_)
  refine goOk_ite (fun e => goOk_ite (fun _ => goOk_next (by omega) (by omega) (by omega) (by omega)) (fun _ => goOk_trap _ _ _ _ _ _ (by decide))) (fun n2 => ?_)
  refine goOk_ite (fun e => goOk_ite (fun _ => goOk_next (by omega) (by omega) (by omega) (by omega)) (fun _ => goOk_trap _ _ _ _ _ _ (by decide))) (fun n3 => ?_)
  refine goOk_ite (fun e => goOk_next (by omega) (by omega) (by omega) (by omega)) (fun n4 => ?_)
  refine goOk_ite (fun e => goOk_next (by omega) (by omega) (by omega) (by omega)) (fun n5 => ?_)
  refine goOk_ite (fun e => goOk_next (by omega) (by omega) (by omega) (by omega)) (fun n6 => ?_)
  refine goOk_ite (fun e => goOk_ite (fun _ => goOk_trap _ _ _ _ _ _ (by decide)) (fun _ => goOk_next (by omega) (by omega) (by omega) (by omega))) (fun n7 => ?_)
  refine goOk_ite (fun e => goOk_next (by omega) (by omega) (by omega) (by omega)) (fun n8 => ?_)
  refine goOk_ite (fun e _ => ⟨.inr ⟨.inl e, rfl⟩, ansN_none (by omega) (by omega) (by omega)⟩) (fun n9 => ?_)
  refine goOk_ite (fun e _ => ⟨?_, ansN_none (by omega) (by omega) (by omega)⟩) (fun n10 => ?_)
  · show ((if st.getD (st.length - 1) 0 = 0 then min arg 60 else pc + 1) = pc + 1 ∧ op ≠ 9) ∨ ((op = 9 ∨ op = 10) ∧ (if st.getD (st.length - 1) 0 = 0 then min arg 60 else pc + 1) = min arg 60)
    by_cases h : st.getD (st.length - 1) 0 = 0
    · rw [if_pos h]; exact .inr ⟨.inr e, rfl⟩
    · rw [if_neg h]; exact .inl ⟨rfl, n9⟩
  refine goOk_ite (fun e => goOk_ite (fun _ => goOk_trap _ _ _ _ _ _ (by decide)) (fun _ => goOk_next (by omega) (by omega) (by omega) (by omega))) (fun n11 => ?_)
  refine goOk_ite (fun e => goOk_next (by omega) (by omega) (by omega) (by omega)) (fun n12 => ?_)
  refine goOk_ite (fun e _ => ⟨.inl ⟨rfl, n9⟩, by rw [e]⟩) (fun n13 => ?_)
  refine goOk_ite (fun e _ => ⟨.inl ⟨rfl, n9⟩, by rw [e]⟩) (fun n14 => ?_)
  refine goOk_ite (fun e _ => ⟨.inl ⟨rfl, n9⟩, by rw [e]⟩) (fun n15 => ?_)
  refine goOk_ite (fun e _ => ⟨.inl ⟨rfl, n9⟩, by rw [e]⟩) (fun n16 => ?_)
  exact goOk_ite (fun _ => goOk_trap _ _ _ _ _ _ (by decide)) (fun _ => goOk_next (by omega) (by omega) (by omega) (by omega))
theorem stepR_go {c : Bool} {pc : Int} {st : List Int} {rl : List (Int × Int)} {ce : List Int} {f s t : Int} {R : Res} (hR : stepR c pc st rl ce f s t = R) : GoOk pc (opAt' rl pc).1 (opAt' rl pc).2 R := by
  subst hR
  unfold stepR cpuV
  cases c
  · exact goOk_trap _ _ _ _ _ _ (by decide)
  · exact stepV_go
end Go.Proofs.Ythnocibkgpofnaa

namespace Go.Proofs.Ythnocibkgpofnaa
open Go.RowKit Go.PlainAid
set_option linter.unusedVariables false

theorem ans_ways (k : Int) : k = 14 ∨ k = 13 ∨ k = 15 ∨ ((k == 14) = false ∧ (k == 13) = false ∧ (k == 15) = false ∧ ansN k = 0) := by
  by_cases h1 : k = 14
  · exact .inl h1
  · by_cases h2 : k = 13
    · exact .inr (.inl h2)
    · by_cases h3 : k = 15
      · exact .inr (.inr (.inl h3))
      · refine .inr (.inr (.inr ⟨by simpa using h1, by simpa using h2, by simpa using h3, ?_⟩))
        unfold ansN
        rw [if_neg h1, if_neg (by omega)]
theorem answersI (k : Int) (w : World) : Calls Try.prog 61 #[.int .i64 k] w fun e w' => e = .returned (.int .i64 (ansN k : Int)) ∧ w' = w := by
  rcases ans_ways k with rfl | rfl | rfl | ⟨h1, h2, h3, h4⟩
  all_goals
    go_enter Try.func61, Try.ntmps61
    go_wp2
    go_ret
    first | exact ⟨rfl, rfl⟩ | exact ⟨by rw [h4]; rfl, rfl⟩
theorem answersS (k : Int) (w : World) : Calls Try.prog 29 #[.int .i64 k] w fun e w' => e = .returned (.int .i64 (ansN k : Int)) ∧ w' = w := by
  rcases ans_ways k with rfl | rfl | rfl | ⟨h1, h2, h3, h4⟩
  all_goals
    go_enter Try.func29, Try.ntmps29
    go_wp2
    go_ret
    first | exact ⟨rfl, rfl⟩ | exact ⟨by rw [h4]; rfl, rfl⟩
theorem ansN_le (k : Int) : ansN k ≤ 2 := by
  rcases ans_ways k with rfl | rfl | rfl | ⟨_, _, _, h4⟩
  · decide
  · decide
  · decide
  · omega

theorem answersI' (k : Int) (K : Nat) (hK : ansN k = K) (w : World) : Calls Try.prog 61 #[.int .i64 k] w fun e w' => e = .returned (.int .i64 (K : Int)) ∧ w' = w := by
  subst hK; exact answersI k w
theorem answersS' (k : Int) (K : Nat) (hK : ansN k = K) (w : World) : Calls Try.prog 29 #[.int .i64 k] w fun e w' => e = .returned (.int .i64 (K : Int)) ∧ w' = w := by
  subst hK; exact answersS k w
/-- what a step alone hands back -/
def AlonePost (w : World) (m : Nat) (R : Res) (e : Ending) (w' : World) : Prop :=
  ∃ g2 n2 c2 ga2 ca2, e = .returned (.tuple #[.agg #[.int .i64 R.pc, .slice (some ⟨g2, 0, none⟩) n2 c2], .agg #[.slice (some ⟨ga2, 0, none⟩) m ca2], .int .i64 (aloTr R)]) ∧ OwnN w' w.heap.size g2 n2 c2 (aloSt R) ∧ OwnN w' w.heap.size ga2 m ca2 R.ce ∧ g2 ≠ ga2 ∧ Below w.heap.size w w'
/-- the boxes of a step alone -/
def A5 (w W : World) (pc : Int) (sv av : Value) : Prop :=
  W.heap[w.heap.size]? = some (.cells #[.int .i64 pc, sv] 55) ∧ W.heap[w.heap.size + 1]? = some (.cells #[av] 34) ∧ W.heap[w.heap.size + 1 + 1 + 1]? = some (.cells #[.int .i64 0, .slice none 0 0] 55) ∧ W.heap[w.heap.size + 1 + 1 + 1 + 1]? = some (.cells #[.slice none 0 0] 34) ∧ Below w.heap.size w W
theorem a5_start (w : World) (pc : Int) (sv av : Value) (o : Obj) : A5 w (((((w.alloc (.cells #[.int .i64 pc, sv] 55)).alloc (.cells #[av] 34)).alloc o).alloc (.cells #[.int .i64 0, .slice none 0 0] 55)).alloc (.cells #[.slice none 0 0] 34)) pc sv av :=
  ⟨al5_1 w _ _ _ _ _, al5_2 w _ _ _ _ _, al5_4 w _ _ _ _ _, al5_5 w _ _ _ _ _, al5_b w _ _ _ _ _⟩
section
variable {w W W' : World} {pc : Int} {sv av : Value}
theorem A5.on (h : A5 w W pc sv av) (hb : Below W.heap.size W W') : A5 w W' pc sv av :=
  ⟨row_on h.1 hb, row_on h.2.1 hb, row_on h.2.2.1 hb, row_on h.2.2.2.1 hb, bel_on (Nat.le_refl _) h.2.2.2.2 hb⟩
theorem A5.lt (h : A5 w W pc sv av) : w.heap.size + 5 ≤ W.heap.size := row_lt h.2.2.2.1
theorem A5.bel (h : A5 w W pc sv av) : Below w.heap.size w W := h.2.2.2.2
theorem A5.toC (h : A5 w W pc sv av) (p : Int) (v : Value) : A5 w ((W.setCell ⟨w.heap.size, 0, none⟩ (.int .i64 p)).setCell ⟨w.heap.size, 1, none⟩ v) p v av :=
  ⟨two_sets h.1, set_other (set_other h.2.1 (by omega)) (by omega), set_other (set_other h.2.2.1 (by omega)) (by omega), set_other (set_other h.2.2.2.1 (by omega)) (by omega), (h.bel.setCell (p := ⟨w.heap.size, 0, none⟩) (Nat.le_refl _) _).setCell (p := ⟨w.heap.size, 1, none⟩) (Nat.le_refl _) _⟩
theorem A5.toA (h : A5 w W pc sv av) (v : Value) : A5 w (W.setCell ⟨w.heap.size + 1, 0, none⟩ v) pc sv v :=
  ⟨set_other h.1 (by omega), set1_row (i := 0) h.2.1, set_other h.2.2.1 (by omega), set_other h.2.2.2.1 (by omega), h.bel.setCell (p := ⟨w.heap.size + 1, 0, none⟩) (by show w.heap.size ≤ w.heap.size + 1; omega) _⟩
theorem A5.put (h : A5 w W pc sv av) {k : Nat} (i : Nat) (v : Value) (hk : w.heap.size + 5 ≤ k) : A5 w (W.setCell ⟨k, i, none⟩ v) pc sv av :=
  ⟨set_other h.1 (by omega), set_other h.2.1 (by omega), set_other h.2.2.1 (by omega), set_other h.2.2.2.1 (by omega), h.bel.setCell (p := ⟨k, i, none⟩) (by show w.heap.size ≤ k; omega) _⟩
end
theorem sz_set (W : World) (p : Addr) (v : Value) : (W.setCell p v).heap.size = W.heap.size := by simp
/-- .. a step, its answer and its effect stored -/
theorem a5_step {w w1 : World} {pc : Int} {sv av : Value} {R : Res} {g2 N c2 ga2 m ca2 : Nat} (h : A5 w w1 pc sv av) (h2 : OwnN w1 (w.heap.size + 5) g2 N c2 R.st) (hA : OwnN w1 (w.heap.size + 5) ga2 m ca2 R.ce) :
    A5 w ((((((((w1.alloc (.cells #[.int .i64 0, .int .i64 0, .int .i64 0, .int .i64 0] 58)).setCell ⟨w.heap.size, 0, none⟩ (.int .i64 R.pc)).setCell ⟨w.heap.size, 1, none⟩ (.slice (some ⟨g2, 0, none⟩) N c2)).setCell ⟨w.heap.size + 1, 0, none⟩ (.slice (some ⟨ga2, 0, none⟩) m ca2)).setCell ⟨w1.heap.size, 0, none⟩ (.int .i64 R.k)).setCell ⟨w1.heap.size, 1, none⟩ (.int .i64 R.po)).setCell ⟨w1.heap.size, 2, none⟩ (.int .i64 R.nu)).setCell ⟨w1.heap.size, 3, none⟩ (.int .i64 R.tr)) R.pc (.slice (some ⟨g2, 0, none⟩) N c2) (.slice (some ⟨ga2, 0, none⟩) m ca2) ∧ ((((((((w1.alloc (.cells #[.int .i64 0, .int .i64 0, .int .i64 0, .int .i64 0] 58)).setCell ⟨w.heap.size, 0, none⟩ (.int .i64 R.pc)).setCell ⟨w.heap.size, 1, none⟩ (.slice (some ⟨g2, 0, none⟩) N c2)).setCell ⟨w.heap.size + 1, 0, none⟩ (.slice (some ⟨ga2, 0, none⟩) m ca2)).setCell ⟨w1.heap.size, 0, none⟩ (.int .i64 R.k)).setCell ⟨w1.heap.size, 1, none⟩ (.int .i64 R.po)).setCell ⟨w1.heap.size, 2, none⟩ (.int .i64 R.nu)).setCell ⟨w1.heap.size, 3, none⟩ (.int .i64 R.tr)).heap[w1.heap.size]? = some (.cells #[.int .i64 R.k, .int .i64 R.po, .int .i64 R.nu, .int .i64 R.tr] 58) ∧ OwnN ((((((((w1.alloc (.cells #[.int .i64 0, .int .i64 0, .int .i64 0, .int .i64 0] 58)).setCell ⟨w.heap.size, 0, none⟩ (.int .i64 R.pc)).setCell ⟨w.heap.size, 1, none⟩ (.slice (some ⟨g2, 0, none⟩) N c2)).setCell ⟨w.heap.size + 1, 0, none⟩ (.slice (some ⟨ga2, 0, none⟩) m ca2)).setCell ⟨w1.heap.size, 0, none⟩ (.int .i64 R.k)).setCell ⟨w1.heap.size, 1, none⟩ (.int .i64 R.po)).setCell ⟨w1.heap.size, 2, none⟩ (.int .i64 R.nu)).setCell ⟨w1.heap.size, 3, none⟩ (.int .i64 R.tr)) (w.heap.size + 5) g2 N c2 R.st ∧ OwnN ((((((((w1.alloc (.cells #[.int .i64 0, .int .i64 0, .int .i64 0, .int .i64 0] 58)).setCell ⟨w.heap.size, 0, none⟩ (.int .i64 R.pc)).setCell ⟨w.heap.size, 1, none⟩ (.slice (some ⟨g2, 0, none⟩) N c2)).setCell ⟨w.heap.size + 1, 0, none⟩ (.slice (some ⟨ga2, 0, none⟩) m ca2)).setCell ⟨w1.heap.size, 0, none⟩ (.int .i64 R.k)).setCell ⟨w1.heap.size, 1, none⟩ (.int .i64 R.po)).setCell ⟨w1.heap.size, 2, none⟩ (.int .i64 R.nu)).setCell ⟨w1.heap.size, 3, none⟩ (.int .i64 R.tr)) (w.heap.size + 5) ga2 m ca2 R.ce := by
  have hlt := h.lt
  have n2 := h2.ge
  have l2 := h2.lt
  have nA := hA.ge
  have lA := hA.lt
  refine ⟨?_, ?_, ?_, ?_⟩
  · exact (((((((h.on ((Below.refl _ _).alloc (Nat.le_refl _) _)).toC _ _).toA _).put 0 _ hlt).put 1 _ hlt).put 2 _ hlt).put 3 _ hlt)
  · exact set1_row (i := 3) (set1_row (i := 2) (set1_row (i := 1) (set1_row (i := 0) (set_other (set_other (set_other (heap_new w1 _) (by omega)) (by omega)) (by omega)))))
  · exact (((((((h2.alloc _).set (by omega)).set (by omega)).set (by omega)).set (by omega)).set (by omega)).set (by omega)).set (by omega)
  · exact (((((((hA.alloc _).set (by omega)).set (by omega)).set (by omega)).set (by omega)).set (by omega)).set (by omega)).set (by omega)

theorem a5_fin {w W : World} {pc : Int} {sv av : Value} {R : Res} {g n c ga m ca : Nat} {T : Int} (h : A5 w W pc sv av) (ho : OwnN W (w.heap.size + 5) g n c (aloSt R)) (hA : OwnN W (w.heap.size + 5) ga m ca R.ce) (hne : g ≠ ga) (hT : aloTr R = T) :
    AlonePost w m R (.returned (.tuple #[.agg #[.int .i64 R.pc, .slice (some ⟨g, 0, none⟩) n c], .agg #[.slice (some ⟨ga, 0, none⟩) m ca], .int .i64 T])) (((W.setCell ⟨w.heap.size + 1 + 1 + 1, 0, none⟩ (.int .i64 R.pc)).setCell ⟨w.heap.size + 1 + 1 + 1, 1, none⟩ (.slice (some ⟨g, 0, none⟩) n c)).setCell ⟨w.heap.size + 1 + 1 + 1 + 1, 0, none⟩ (.slice (some ⟨ga, 0, none⟩) m ca)).drew := by
  subst hT
  have g1 := ho.ge
  have g2 := hA.ge
  refine ⟨g, n, c, ga, ca, rfl, ?_, ?_, hne, ?_⟩
  · exact ((((ho.set (by omega)).set (by omega)).set (by omega)).drew).mono (by omega)
  · exact ((((hA.set (by omega)).set (by omega)).set (by omega)).drew).mono (by omega)
  · exact (((h.bel.setCell (p := ⟨w.heap.size + 1 + 1 + 1, 0, none⟩) (by show w.heap.size ≤ w.heap.size + 1 + 1 + 1; omega) _).setCell (p := ⟨w.heap.size + 1 + 1 + 1, 1, none⟩) (by show w.heap.size ≤ w.heap.size + 1 + 1 + 1; omega) _).setCell (p := ⟨w.heap.size + 1 + 1 + 1 + 1, 0, none⟩) (by show w.heap.size ≤ w.heap.size + 1 + 1 + 1 + 1; omega) _).drew

set_option maxRecDepth 100000 in
set_option maxHeartbeats 1000000 in
theorem aloneI (qs : Option Addr) (pc : Int) (st : List Int) (n cp : Nat) (qc : Option Addr) (rl : List (Int × Int)) (nc cc : Nat) (qa : Option Addr) (ce : List Int) (m ca : Nat) (f s : Int) (b : Bool) (R : Res) (hl : st.length = n) (hn : n ≤ 1048576) (hlc : rl.length = nc) (hnc : nc ≤ 1048576) (hla : ce.length = m) (hm : m ≤ 1048576) (hb : b = true ↔ (CpuR pc st ∧ I.CodeR rl ∧ pc < (nc : Int))) (hR : stepR b pc st rl ce f s 0 = R) (w : World) (hr : Rd w qs st) (hrc : I.RdR w qc rl) (hra : Rd w qa ce) :
    Calls Try.prog 34 #[.agg #[.int .i64 pc, .slice qs n cp], .slice qc nc cc, .agg #[.slice qa m ca], .agg #[.int .i64 f, .int .i64 s]] w (AlonePost w m R) := by
  have HR : Hid (Rd w qs st) := hr
  have HRC : Hid (I.RdR w qc rl) := hrc
  have HRA : Hid (Rd w qa ce) := hra
  have HL : Hid (st.length = n) := hl
  have HLC : Hid (rl.length = nc) := hlc
  have HLA : Hid (ce.length = m) := hla
  have HB : Hid (b = true ↔ (CpuR pc st ∧ I.CodeR rl ∧ pc < (nc : Int))) := hb
  have HRR : Hid (stepR b pc st rl ce f s 0 = R) := hR
  have HRI : Hid (R.tr = 0 → CpuR R.pc R.st) := fun h => stepR_right hlc hb hR h
  have HRT : Hid (R.tr ≠ 0 → R = trapR pc st ce R.tr) := fun h => stepR_trap hR h
  obtain ⟨N, hN⟩ : ∃ N, R.st.length = N := ⟨_, rfl⟩
  have HN : Hid (R.st.length = N) := hN
  have HA0 : Hid (A5 w _ pc (.slice qs n cp) (.slice qa m ca)) := a5_start w pc (.slice qs n cp) (.slice qa m ca) (.cells #[.int .i64 f, .int .i64 s] 36)
  clear hr hrc hra hl hlc hla hb hR hN
  go_enter Try.func34, Try.ntmps34
  go_wp2_with fail
  refine (stepI qs pc st n cp qc rl nc cc qa ce m ca f s 0 b R N HL.out hn HLC.out hnc HLA.out hm HB.out HRR.out HN.out _ (HR.out.keep HA0.out.bel (Nat.le_refl _)) (HRC.out.keep HA0.out.bel (Nat.le_refl _)) (HRA.out.keep HA0.out.bel (Nat.le_refl _))).mono ?_
  rintro e w1 ⟨g2, c2, ga2, ca2, rfl, hown2, hownA, hne, hb1⟩
  have HA1 : Hid (A5 w w1 pc (.slice qs n cp) (.slice qa m ca)) := HA0.out.on hb1
  have HS : Hid (_ ∧ _) := a5_step (R := R) HA1.out (hown2.mono HA0.out.lt) (hownA.mono HA0.out.lt)
  have HNE : Hid (g2 ≠ ga2) := hne
  have HW1 : Hid (A5 w (w1.alloc (.cells #[.int .i64 0, .int .i64 0, .int .i64 0, .int .i64 0] 58)) pc (.slice qs n cp) (.slice qa m ca)) := HA1.out.on ((Below.refl _ _).alloc (Nat.le_refl _) _)
  have k0 := row2_cells HW1.out.1
  have k1 := row1_cells HW1.out.2.1
  have k2 := row4_cells (heap_new w1 (.cells #[.int .i64 0, .int .i64 0, .int .i64 0, .int .i64 0] 58))
  have kE := (row4_cells HS.out.2.1).1
  clear hown2 hownA hne hb1 HA0 HW1
  have hlt := HA1.out.lt
  obtain ⟨Kn, hKn⟩ : ∃ Kn, ansN R.k = Kn := ⟨_, rfl⟩
  have HK : Hid (ansN R.k = Kn) := hKn
  have hK2 : Kn ≤ 2 := by rw [← hKn]; exact ansN_le _
  have HKR : Hid (0 < Kn → CpuR R.pc R.st) := fun h => HRI.out (by
    by_cases h0 : R.tr = 0
    · exact h0
    · exfalso
      have e : R.k = 0 := by rw [HRT.out h0]; rfl
      rw [e] at hKn
      have : ansN 0 = 0 := rfl
      omega)
  obtain ⟨ok, hok⟩ : ∃ ok, putA Kn R.st = (aloSt R, ok) := ⟨(putA Kn R.st).2, by unfold aloSt; rw [hKn]⟩
  have HP : Hid (putA Kn R.st = (aloSt R, ok)) := hok
  have HTR : Hid (aloTr R = if ok then R.tr else 4) := by show aloTr R = _; unfold aloTr; rw [hKn, hok]
  clear hKn hok
  go_wp2_with fail
  refine (answersI' R.k Kn HK.out _).mono ?_
  rintro e w2 ⟨rfl, hw2⟩
  obtain ⟨KE, hKE⟩ : ∃ KE, w1.heap.size = KE := ⟨_, rfl⟩
  have hKl : w.heap.size + 5 ≤ KE := by rw [← hKE]; exact hlt
  have HS2 : Hid (A5 w w2 R.pc (.slice (some ⟨g2, 0, none⟩) N c2) (.slice (some ⟨ga2, 0, none⟩) m ca2) ∧ w2.heap[KE]? = some (.cells #[.int .i64 R.k, .int .i64 R.po, .int .i64 R.nu, .int .i64 R.tr] 58) ∧ OwnN w2 (w.heap.size + 5) g2 N c2 R.st ∧ OwnN w2 (w.heap.size + 5) ga2 m ca2 R.ce) := by rw [hw2, ← hKE]; exact HS.out
  clear hw2 HS k0 k1 k2 kE HA1 hlt
  rw [hKE]
  clear hKE
  go_wp2
  go_loopg [26] Kn (fun gk iv wr => ∃ (j : Nat) (st' : List Int) (g' n' c' : Nat), j + gk = Kn ∧ iv = .int .i64 j ∧ Hid (putA gk st' = (aloSt R, ok)) ∧ Hid (0 < Kn → CpuR R.pc st') ∧ Hid (A5 w wr R.pc (.slice (some ⟨g', 0, none⟩) n' c') (.slice (some ⟨ga2, 0, none⟩) m ca2)) ∧ Hid (wr.heap[KE]? = some (.cells #[.int .i64 R.k, .int .i64 R.po, .int .i64 R.nu, .int .i64 R.tr] 58)) ∧ Hid (OwnN wr (w.heap.size + 5) g' n' c' st') ∧ Hid (OwnN wr (w.heap.size + 5) ga2 m ca2 R.ce) ∧ Hid (g' ≠ ga2))
  case atStart => exact ⟨0, R.st, g2, N, c2, by omega, rfl, HP, HKR, HS2.out.1, HS2.out.2.1, HS2.out.2.2.1, HS2.out.2.2.2, HNE⟩
  case round =>
    clear HP HKR HS2 HNE
    obtain ⟨j, st', g', n', c', hj, rfl, HP, HKR, HA, HE, HO, HOA, HNE⟩ := hrel
    have kC := row2_cells HA.out.1
    have kA := row1_cells HA.out.2.1
    have kE := row4_cells HE.out
    have kz := row2_cells HA.out.2.2.1
    have ky := row1_cells HA.out.2.2.2.1
    cases gk with
    | succ g =>
      have hjK : j < Kn := by omega
      have hCR : Hid (CpuR R.pc st') := HKR.out (by omega)
      have hst : Hid (st'.length = n') := HO.out.len
      have hn8 : n' ≤ 8 := by rw [← HO.out.len]; exact hCR.out.1
      by_cases h8 : n' = 8
      · subst h8
        have e8 : st'.length = 8 := HO.out.len
        have hp := HP.out
        rw [putA_full e8] at hp
        injection hp with hp1 hp2
        have HFIN : Hid (aloTr R = 4) := by show aloTr R = 4; rw [HTR.out, ← hp2]; rfl
        have HST : Hid (st' = aloSt R) := hp1
        clear hp1 hp2 e8
        go_wp2_with fail
        refine (answerI' (some ⟨g', 0, none⟩) R.pc st' 8 c' 0 false 8 st' hst.out (by omega) ⟨(fun h => by cases h), (fun h => (h.2 rfl).elim)⟩ rfl rfl _ HO.out.rd).mono ?_
        rintro e w3 ⟨g3, c3, rfl, hown3, hb3⟩
        have HA3 : Hid (A5 w (w3.alloc (.cells #[.int .i64 R.pc, .slice (some ⟨g3, 0, none⟩) 8 c3] 55)) R.pc (.slice (some ⟨g', 0, none⟩) 8 c') (.slice (some ⟨ga2, 0, none⟩) m ca2)) := (HA.out.on hb3).on ((Below.refl _ _).alloc (Nat.le_refl _) _)
        have HO3 : Hid (OwnN (w3.alloc (.cells #[.int .i64 R.pc, .slice (some ⟨g3, 0, none⟩) 8 c3] 55)) (w.heap.size + 5) g' 8 c' st') := (HO.out.on hb3).alloc _
        have HOA3 : Hid (OwnN (w3.alloc (.cells #[.int .i64 R.pc, .slice (some ⟨g3, 0, none⟩) 8 c3] 55)) (w.heap.size + 5) ga2 m ca2 R.ce) := (HOA.out.on hb3).alloc _
        have kC := row2_cells HA3.out.1
        have kA := row1_cells HA3.out.2.1
        have kz := row2_cells HA3.out.2.2.1
        have ky := row1_cells HA3.out.2.2.2.1
        clear hown3 hb3 HA HO HOA HE
        go_wp2
        go_region
        go_wp2
        refine bodyPost_ret (v := .tuple #[.agg #[.int .i64 R.pc, .slice (some ⟨g', 0, none⟩) 8 c'], .agg #[.slice (some ⟨ga2, 0, none⟩) m ca2], .int .i64 4]) (by simp [results, Try.results34, go_sem, kz, ky]) rfl ?_
        exact a5_fin HA3.out (by rw [← HST.out]; exact HO3.out) HOA3.out HNE.out HFIN.out
      · obtain ⟨n3, hn3⟩ : ∃ n3, n' + 1 = n3 := ⟨_, rfl⟩
        have HN3 : Hid (n' + 1 = n3) := hn3
        have e8 : st'.length ≠ 8 := by rw [HO.out.len]; exact h8
        have HP' : Hid (putA g (st' ++ [0]) = (aloSt R, ok)) := by show _ = _; rw [← putA_more e8]; exact HP.out
        have HKR' : Hid (0 < Kn → CpuR R.pc (st' ++ [0])) := fun _ => cpuR_put hCR.out hCR.out.2.1.1 hCR.out.2.1.2 (by have := hCR.out.1; omega) isW_zero
        have H8 : Hid (n' ≠ 8) := h8
        clear e8 h8 HP HKR hn3
        go_wp2_with fail
        refine (answerI' (some ⟨g', 0, none⟩) R.pc st' n' c' 0 true n3 (st' ++ [0]) hst.out (by omega) ⟨(fun _ => ⟨hCR.out, H8.out⟩), (fun _ => rfl)⟩ HN3.out rfl _ HO.out.rd).mono ?_
        rintro e w3 ⟨g3, c3, rfl, hown3, hb3⟩
        have HA3 : Hid (A5 w (w3.alloc (.cells #[.int .i64 R.pc, .slice (some ⟨g3, 0, none⟩) n3 c3] 55)) R.pc (.slice (some ⟨g', 0, none⟩) n' c') (.slice (some ⟨ga2, 0, none⟩) m ca2)) := (HA.out.on hb3).on ((Below.refl _ _).alloc (Nat.le_refl _) _)
        have hAl := HA.out.lt
        have h3l := hown3.lt
        have h3g := hown3.ge
        have hAg := HOA.out.lt
        have HA4 : Hid (A5 w (((w3.alloc (.cells #[.int .i64 R.pc, .slice (some ⟨g3, 0, none⟩) n3 c3] 55)).setCell ⟨w.heap.size, 0, none⟩ (.int .i64 R.pc)).setCell ⟨w.heap.size, 1, none⟩ (.slice (some ⟨g3, 0, none⟩) n3 c3)) R.pc (.slice (some ⟨g3, 0, none⟩) n3 c3) (.slice (some ⟨ga2, 0, none⟩) m ca2)) := HA3.out.toC _ _
        have HE4 : Hid ((((w3.alloc (.cells #[.int .i64 R.pc, .slice (some ⟨g3, 0, none⟩) n3 c3] 55)).setCell ⟨w.heap.size, 0, none⟩ (.int .i64 R.pc)).setCell ⟨w.heap.size, 1, none⟩ (.slice (some ⟨g3, 0, none⟩) n3 c3)).heap[KE]? = some (.cells #[.int .i64 R.k, .int .i64 R.po, .int .i64 R.nu, .int .i64 R.tr] 58)) := set_other (set_other (row_al (row_on HE.out hb3)) (by omega)) (by omega)
        have HO4 : Hid (OwnN (((w3.alloc (.cells #[.int .i64 R.pc, .slice (some ⟨g3, 0, none⟩) n3 c3] 55)).setCell ⟨w.heap.size, 0, none⟩ (.int .i64 R.pc)).setCell ⟨w.heap.size, 1, none⟩ (.slice (some ⟨g3, 0, none⟩) n3 c3)) (w.heap.size + 5) g3 n3 c3 (st' ++ [0])) := (((hown3.mono hAl).alloc _).set (by omega)).set (by omega)
        have HOA4 : Hid (OwnN (((w3.alloc (.cells #[.int .i64 R.pc, .slice (some ⟨g3, 0, none⟩) n3 c3] 55)).setCell ⟨w.heap.size, 0, none⟩ (.int .i64 R.pc)).setCell ⟨w.heap.size, 1, none⟩ (.slice (some ⟨g3, 0, none⟩) n3 c3)) (w.heap.size + 5) ga2 m ca2 R.ce) := (((HOA.out.on hb3).alloc _).set (by have := HOA.out.ge; omega)).set (by have := HOA.out.ge; omega)
        have HNE4 : Hid (g3 ≠ ga2) := by show g3 ≠ ga2; omega
        have kC3 := row2_cells HA3.out.1
        have kN3 := row2_cells (heap_new w3 (.cells #[.int .i64 R.pc, .slice (some ⟨g3, 0, none⟩) n3 c3] 55))
        clear hown3 hb3 HA HO HOA HE HA3 h3l h3g hAg kC kA kE kz ky hst
        go_wp2
        go_roundg g
        case measure => omega
        case rel => exact ⟨j + 1, st' ++ [0], g3, n3, c3, by omega, by go_num, HP', HKR', HA4, HE4, HO4, HOA4, HNE4⟩
    | zero =>
      obtain rfl : j = Kn := by omega
      have hp := HP.out
      rw [putA_zero] at hp
      injection hp with hp1 hp2
      have HFIN : Hid (aloTr R = R.tr) := by show aloTr R = R.tr; rw [HTR.out, ← hp2]; rfl
      have HST : Hid (st' = aloSt R) := hp1
      clear hp1 hp2
      go_wp2
      go_region
      go_wp2
      refine bodyPost_ret (v := .tuple #[.agg #[.int .i64 R.pc, .slice (some ⟨g', 0, none⟩) n' c'], .agg #[.slice (some ⟨ga2, 0, none⟩) m ca2], .int .i64 R.tr]) (by simp [results, Try.results34, go_sem, kz, ky]) rfl ?_
      exact a5_fin HA.out (by rw [← HST.out]; exact HO.out) HOA.out HNE.out HFIN.out
end Go.Proofs.Ythnocibkgpofnaa

namespace Go.Proofs.Ythnocibkgpofnaa
open Go.RowKit Go.PlainAid
set_option linter.unusedVariables false

theorem costI' (op c : Int) (hc : costN op = c) (w : World) : Calls Try.prog 33 #[.int .i64 op] w fun e w' => e = .returned (.int .i64 c) ∧ w' = w := by
  subst hc; exact costI op w
/-- the boxes of a run -/
def R3 (w W : World) (av : Value) (f s pc : Int) (sv : Value) : Prop :=
  W.heap[w.heap.size]? = some (.cells #[av] 34) ∧ W.heap[w.heap.size + 1]? = some (.cells #[.int .i64 f, .int .i64 s] 36) ∧ W.heap[w.heap.size + 1 + 1]? = some (.cells #[.int .i64 pc, sv] 55) ∧ Below w.heap.size w W
theorem r3_start (w : World) (av : Value) (f s pc : Int) (sv : Value) : R3 w (((w.alloc (.cells #[av] 34)).alloc (.cells #[.int .i64 f, .int .i64 s] 36)).alloc (.cells #[.int .i64 pc, sv] 55)) av f s pc sv :=
  ⟨al3_1 w _ _ _, al3_2 w _ _ _, al3_3 w _ _ _, al3_b w _ _ _⟩
section
variable {w W W' : World} {pc f s : Int} {sv av : Value}
theorem R3.on (h : R3 w W av f s pc sv) (hb : Below W.heap.size W W') : R3 w W' av f s pc sv :=
  ⟨row_on h.1 hb, row_on h.2.1 hb, row_on h.2.2.1 hb, bel_on (Nat.le_refl _) h.2.2.2 hb⟩
theorem R3.lt (h : R3 w W av f s pc sv) : w.heap.size + 3 ≤ W.heap.size := row_lt h.2.2.1
theorem R3.bel (h : R3 w W av f s pc sv) : Below w.heap.size w W := h.2.2.2
theorem R3.toC (h : R3 w W av f s pc sv) (p : Int) (v : Value) : R3 w ((W.setCell ⟨w.heap.size + 1 + 1, 0, none⟩ (.int .i64 p)).setCell ⟨w.heap.size + 1 + 1, 1, none⟩ v) av f s p v :=
  ⟨set_other (set_other h.1 (by omega)) (by omega), set_other (set_other h.2.1 (by omega)) (by omega), two_sets h.2.2.1, (h.bel.setCell (p := ⟨w.heap.size + 1 + 1, 0, none⟩) (by show w.heap.size ≤ w.heap.size + 1 + 1; omega) _).setCell (p := ⟨w.heap.size + 1 + 1, 1, none⟩) (by show w.heap.size ≤ w.heap.size + 1 + 1; omega) _⟩
theorem R3.toA (h : R3 w W av f s pc sv) (v : Value) : R3 w (W.setCell ⟨w.heap.size, 0, none⟩ v) v f s pc sv :=
  ⟨set1_row (i := 0) h.1, set_other h.2.1 (by omega), set_other h.2.2.1 (by omega), h.bel.setCell (p := ⟨w.heap.size, 0, none⟩) (Nat.le_refl _) _⟩
end
theorem opAt_in {rl : List (Int × Int)} {p : Nat} (h : p < rl.length) : opAt' rl (p : Int) = rl[p] := by
  unfold opAt'
  rw [Int.toNat_natCast, List.getD_eq_getElem?_getD, List.getElem?_eq_getElem h]
  rfl
theorem op_zero (op : Int) : op = 0 ∨ ((op == 0) = false ∧ op ≠ 0) := by
  by_cases h : op = 0
  · exact .inl h
  · exact .inr ⟨by simpa using h, h⟩
theorem alo_zero {R : Res} (h : aloTr R = 0) : R.tr = 0 := by
  unfold aloTr at h
  by_cases hk : (putA (ansN R.k) R.st).2 = true
  · rw [if_pos hk] at h; exact h
  · rw [if_neg hk] at h; exact absurd h (by decide)

set_option maxRecDepth 100000 in
set_option maxHeartbeats 2000000 in
theorem costRunI (qc : Option Addr) (rl : List (Int × Int)) (nc cc : Nat) (qa : Option Addr) (ce0 : List Int) (m ca : Nat) (f s most M : Int) (Mn : Nat) (c : Bool) (X T : Int) (hlc : rl.length = nc) (hnc : nc ≤ 1048576) (hla : ce0.length = m) (hm : m ≤ 1048576) (hc : c = true ↔ I.CodeR rl) (hM : min most 5000 = M) (hMn : M.toNat = Mn) (hX : runR c rl f s M Mn 0 [] ce0 0 = (X, T)) (w : World) (hrc : I.RdR w qc rl) (hra : Rd w qa ce0) :
    Calls Try.prog 13 #[.slice qc nc cc, .agg #[.slice qa m ca], .agg #[.int .i64 f, .int .i64 s], .int .i64 most] w fun e w' => e = .returned (.tuple #[.int .i64 X, .int .i64 T]) ∧ Below w.heap.size w w' := by
  have HRC : Hid (I.RdR w qc rl) := hrc
  have HLC : Hid (rl.length = nc) := hlc
  have HC : Hid (c = true ↔ I.CodeR rl) := hc
  have HX : Hid (runR c rl f s M Mn 0 [] ce0 0 = (X, T)) := hX
  have HR0 : Hid (R3 w _ (.slice qa m ca) f s 0 (.slice none 0 0)) := r3_start w (.slice qa m ca) f s 0 (.slice none 0 0)
  have HRA0 : Hid (Rd _ qa ce0) := hra.keep HR0.out.bel (Nat.le_refl _)
  have HLA0 : Hid (ce0.length = m) := hla
  have hM5 : M ≤ 5000 := by omega
  have hMM : M ≤ (Mn : Int) := by omega
  have hMp : 0 < Mn → M = (Mn : Int) := by omega
  have HMp : Hid (0 < Mn → M = (Mn : Int)) := hMp
  have hw : (most ≤ 5000 ∧ M = most) ∨ (5000 < most ∧ M = 5000) := by omega
  have hnil : Hid (CpuR 0 []) := ⟨by simp, ⟨by decide, by decide⟩, fun i h => absurd h (Nat.not_lt_zero _)⟩
  have HRn : Hid (∀ W, Rd W none []) := fun W h => absurd h (Nat.lt_irrefl _)
  clear hrc hlc hc hX hra hla hM hMn hMp
  go_enter Try.func13, Try.ntmps13
  rcases hw with ⟨hmo, hmm⟩ | ⟨hmo, hmm⟩
  · subst hmm
    go_wp2
    go_loopg [11, 17] Mn (fun gk cv iv wr => ∃ (j : Nat) (cost pc : Int) (st : List Int) (qs : Option Addr) (n cp : Nat) (ce : List Int) (qa' : Option Addr) (ca' : Nat), j + gk = Mn ∧ iv = .int .i64 j ∧ cv = .int .i64 cost ∧ (0 ≤ cost ∧ cost ≤ 5000) ∧ Hid (runR c rl f s M gk pc st ce cost = (X, T)) ∧ Hid (R3 w wr (.slice qa' m ca') f s pc (.slice qs n cp)) ∧ Hid (Rd wr qs st) ∧ Hid (st.length = n) ∧ Hid (Rd wr qa' ce) ∧ Hid (ce.length = m) ∧ Hid (CpuR pc st))
    case atStart => exact ⟨0, 0, 0, [], none, 0, 0, ce0, qa, ca, by omega, rfl, rfl, ⟨by decide, by decide⟩, HX, HR0, HRn.out _, rfl, HRA0, HLA0, hnil⟩
    case round =>
      clear HX HR0 HRA0 HLA0 hnil HRn
      obtain ⟨j, cost, pc, st, qs, n, cp, ce, qa', ca', hj, rfl, rfl, hco, HX, HR, HRS, HLS, HRA, HLA, HCR⟩ := hrel
      have hp0 := HCR.out.2.1.1
      obtain ⟨p, rfl⟩ := Int.eq_ofNat_of_zero_le hp0
      have kC := row2_cells HR.out.2.2.1
      have kA := row1_cells HR.out.1
      have kR := row2_cells HR.out.2.1
      cases gk with
      | zero =>
        have hlt : ¬ ((j : Int) < M) := by omega
        have HE : Hid (cost = X ∧ 0 = T) := by have h := HX.out; rw [run_zero] at h; injection h with h1 h2; exact ⟨h1, h2⟩
        go_wp2
        refine bodyPost_ret (v := .tuple #[.int .i64 cost, .int .i64 0]) (by simp [results, Try.results13, go_sem]) rfl ⟨by rw [HE.out.1, HE.out.2], HR.out.bel⟩
      | succ k =>
        have hlt : (j : Int) < M := by have := HMp.out (by omega); omega
        by_cases hpc : (nc : Int) ≤ (p : Int)
        · have HE : Hid (cost = X ∧ 0 = T) := by have h := HX.out; rw [run_end (by rw [HLC.out]; exact hpc)] at h; injection h with h1 h2; exact ⟨h1, h2⟩
          go_wp2
          refine bodyPost_ret (v := .tuple #[.int .i64 cost, .int .i64 0]) (by simp [results, Try.results13, go_sem]) rfl ⟨by rw [HE.out.1, HE.out.2], HR.out.bel⟩
        · have hpl : p < rl.length := by have := HLC.out; omega
          obtain ⟨g, off, rfl, hcc⟩ := HRC.out (by omega)
          have hgl : g < w.heap.size := World.block_lt_of_cell? w ⟨g, off + 0 * 2, none⟩ (hcc 0 (by omega)).1
          have c1 := (HR.out.bel.cell (p := ⟨g, off + p * 2, none⟩) hgl).trans (hcc p hpl).1
          clear hcc
          obtain ⟨op, hop⟩ : ∃ op, rl[p].1 = op := ⟨_, rfl⟩
          rw [hop] at c1
          have HOP : Hid ((opAt' rl (p : Int)).1 = op) := by show _ = _; rw [opAt_in hpl]; exact hop
          obtain ⟨co, hcoq⟩ : ∃ co, costN op = co := ⟨_, rfl⟩
          have HCO : Hid (costN op = co) := hcoq
          have hcb := costN_bd op
          rw [hcoq] at hcb
          clear hop hcoq
          go_wp2_with fail
          refine (costI' op co HCO.out _).mono ?_
          rintro e w2 ⟨rfl, rfl⟩
          by_cases hd : M < cost + co
          · have HE : Hid (cost = X ∧ 0 = T) := by have h := HX.out; rw [run_dear (co := co) (by rw [HOP.out]; exact HCO.out) hd] at h; injection h with h1 h2; exact ⟨h1, h2⟩
            go_wp2
            refine bodyPost_ret (v := .tuple #[.int .i64 cost, .int .i64 0]) (by simp [results, Try.results13, go_sem]) rfl ⟨by rw [HE.out.1, HE.out.2], HR.out.bel⟩
          · obtain ⟨R, hR⟩ : ∃ R, stepR c (p : Int) st rl ce f s 0 = R := ⟨_, rfl⟩
            have HRR : Hid (stepR c (p : Int) st rl ce f s 0 = R) := hR
            have HPN : Hid (¬ (rl.length : Int) ≤ (p : Int)) := by show ¬ _; rw [HLC.out]; omega
            have HBB : Hid (c = true ↔ (CpuR (p : Int) st ∧ I.CodeR rl ∧ (p : Int) < (nc : Int))) := ⟨fun h => ⟨HCR.out, HC.out.1 h, by omega⟩, fun h => HC.out.2 h.2.1⟩
            have HRI : Hid (R.tr = 0 → CpuR R.pc R.st) := fun h => stepR_right HLC.out HBB.out hR h
            clear hR
            have hn8 : n ≤ 1048576 := by have := HLS.out; have := HCR.out.1; omega
            go_wp2_with fail
            refine (costI' op co HCO.out _).mono ?_
            rintro e w3 ⟨rfl, rfl⟩
            go_wp2_with fail
            refine (aloneI qs (p : Int) st n cp (some ⟨g, off, none⟩) rl nc cc qa' ce m ca' f s c R HLS.out hn8 HLC.out hnc HLA.out hm HBB.out HRR.out _ HRS.out (HRC.out.keep HR.out.bel (Nat.le_refl _)) HRA.out).mono ?_
            rintro e w4 ⟨g2, n2, c2, ga2, ca2, rfl, hown2, hownA, hne, hb4⟩
            have HR4 : Hid (R3 w w4 (.slice qa' m ca') f s (p : Int) (.slice qs n cp)) := HR.out.on hb4
            have h3 := HR.out.lt
            have l2 := hown2.ge
            have lA := hownA.ge
            have HR5 : Hid (R3 w (((w4.setCell ⟨w.heap.size + 1 + 1, 0, none⟩ (.int .i64 R.pc)).setCell ⟨w.heap.size + 1 + 1, 1, none⟩ (.slice (some ⟨g2, 0, none⟩) n2 c2)).setCell ⟨w.heap.size, 0, none⟩ (.slice (some ⟨ga2, 0, none⟩) m ca2)) (.slice (some ⟨ga2, 0, none⟩) m ca2) f s R.pc (.slice (some ⟨g2, 0, none⟩) n2 c2)) := (HR4.out.toC _ _).toA _
            have HO5 : Hid (OwnN (((w4.setCell ⟨w.heap.size + 1 + 1, 0, none⟩ (.int .i64 R.pc)).setCell ⟨w.heap.size + 1 + 1, 1, none⟩ (.slice (some ⟨g2, 0, none⟩) n2 c2)).setCell ⟨w.heap.size, 0, none⟩ (.slice (some ⟨ga2, 0, none⟩) m ca2)) w3.heap.size g2 n2 c2 (aloSt R)) := ((hown2.set (by omega)).set (by omega)).set (by omega)
            have HOA5 : Hid (OwnN (((w4.setCell ⟨w.heap.size + 1 + 1, 0, none⟩ (.int .i64 R.pc)).setCell ⟨w.heap.size + 1 + 1, 1, none⟩ (.slice (some ⟨g2, 0, none⟩) n2 c2)).setCell ⟨w.heap.size, 0, none⟩ (.slice (some ⟨ga2, 0, none⟩) m ca2)) w3.heap.size ga2 m ca2 R.ce) := ((hownA.set (by omega)).set (by omega)).set (by omega)
            have HLA5 : Hid (R.ce.length = m) := hownA.len
            have kC4 := row2_cells HR4.out.2.2.1
            have kA4 := row1_cells HR4.out.1
            clear hown2 hownA hne hb4 HR HRS HRA HLS HLA kC kA kR HR4 h3 l2 lA HBB c1
            by_cases htr : aloTr R = 0
            · rcases op_zero op with rfl | ⟨hop0, hop0'⟩
              · have HE : Hid (cost + co = X ∧ aloTr R = T) := by have h := HX.out; rw [run_stop HRR.out HOP.out HCO.out (by have := HPN.out; omega) (by omega) (.inr rfl)] at h; injection h with h1 h2; exact ⟨h1, h2⟩
                go_wp2
                refine bodyPost_ret (v := .tuple #[.int .i64 (cost + co), .int .i64 0]) (by simp [results, Try.results13, go_sem]) rfl ⟨by rw [HE.out.1, ← HE.out.2, htr], HR5.out.bel⟩
              · have HOZ : Hid (op ≠ 0) := hop0'
                have HX' : Hid (runR c rl f s M k R.pc (aloSt R) R.ce (cost + co) = (X, T)) := by have h := HX.out; rw [run_go HRR.out HOP.out HCO.out (by have := HPN.out; omega) (by omega) htr hop0'] at h; exact h
                have HCR' : Hid (CpuR R.pc (aloSt R)) := putA_right _ _ (HRI.out (alo_zero htr))
                clear hop0' HX HCR
                go_wp2
                go_roundg k
                case measure => omega
                case rel => exact ⟨j + 1, cost + co, R.pc, aloSt R, some ⟨g2, 0, none⟩, n2, c2, R.ce, some ⟨ga2, 0, none⟩, ca2, by omega, by go_num, rfl, ⟨by omega, by omega⟩, HX', HR5, HO5.out.rd, HO5.out.len, HOA5.out.rd, HLA5, HCR'⟩
            · have HE : Hid (cost + co = X ∧ aloTr R = T) := by have h := HX.out; rw [run_stop HRR.out HOP.out HCO.out (by have := HPN.out; omega) (by omega) (.inl htr)] at h; injection h with h1 h2; exact ⟨h1, h2⟩
              have hbt : (aloTr R == 0) = false := by simpa using htr
              go_wp2
              refine bodyPost_ret (v := .tuple #[.int .i64 (cost + co), .int .i64 (aloTr R)]) (by simp [results, Try.results13, go_sem]) rfl ⟨by rw [HE.out.1, HE.out.2], HR5.out.bel⟩
  · subst hmm
    go_wp2
    go_loopg [11, 17] Mn (fun gk cv iv wr => ∃ (j : Nat) (cost pc : Int) (st : List Int) (qs : Option Addr) (n cp : Nat) (ce : List Int) (qa' : Option Addr) (ca' : Nat), j + gk = Mn ∧ iv = .int .i64 j ∧ cv = .int .i64 cost ∧ (0 ≤ cost ∧ cost ≤ 5000) ∧ Hid (runR c rl f s 5000 gk pc st ce cost = (X, T)) ∧ Hid (R3 w wr (.slice qa' m ca') f s pc (.slice qs n cp)) ∧ Hid (Rd wr qs st) ∧ Hid (st.length = n) ∧ Hid (Rd wr qa' ce) ∧ Hid (ce.length = m) ∧ Hid (CpuR pc st))
    case atStart => exact ⟨0, 0, 0, [], none, 0, 0, ce0, qa, ca, by omega, rfl, rfl, ⟨by decide, by decide⟩, HX, HR0, HRn.out _, rfl, HRA0, HLA0, hnil⟩
    case round =>
      clear HX HR0 HRA0 HLA0 hnil HRn
      obtain ⟨j, cost, pc, st, qs, n, cp, ce, qa', ca', hj, rfl, rfl, hco, HX, HR, HRS, HLS, HRA, HLA, HCR⟩ := hrel
      have hp0 := HCR.out.2.1.1
      obtain ⟨p, rfl⟩ := Int.eq_ofNat_of_zero_le hp0
      have kC := row2_cells HR.out.2.2.1
      have kA := row1_cells HR.out.1
      have kR := row2_cells HR.out.2.1
      cases gk with
      | zero =>
        have hlt : ¬ ((j : Int) < 5000) := by omega
        have HE : Hid (cost = X ∧ 0 = T) := by have h := HX.out; rw [run_zero] at h; injection h with h1 h2; exact ⟨h1, h2⟩
        go_wp2
        refine bodyPost_ret (v := .tuple #[.int .i64 cost, .int .i64 0]) (by simp [results, Try.results13, go_sem]) rfl ⟨by rw [HE.out.1, HE.out.2], HR.out.bel⟩
      | succ k =>
        have hlt : (j : Int) < 5000 := by have := HMp.out (by omega); omega
        by_cases hpc : (nc : Int) ≤ (p : Int)
        · have HE : Hid (cost = X ∧ 0 = T) := by have h := HX.out; rw [run_end (by rw [HLC.out]; exact hpc)] at h; injection h with h1 h2; exact ⟨h1, h2⟩
          go_wp2
          refine bodyPost_ret (v := .tuple #[.int .i64 cost, .int .i64 0]) (by simp [results, Try.results13, go_sem]) rfl ⟨by rw [HE.out.1, HE.out.2], HR.out.bel⟩
        · have hpl : p < rl.length := by have := HLC.out; omega
          obtain ⟨g, off, rfl, hcc⟩ := HRC.out (by omega)
          have hgl : g < w.heap.size := World.block_lt_of_cell? w ⟨g, off + 0 * 2, none⟩ (hcc 0 (by omega)).1
          have c1 := (HR.out.bel.cell (p := ⟨g, off + p * 2, none⟩) hgl).trans (hcc p hpl).1
          clear hcc
          obtain ⟨op, hop⟩ : ∃ op, rl[p].1 = op := ⟨_, rfl⟩
          rw [hop] at c1
          have HOP : Hid ((opAt' rl (p : Int)).1 = op) := by show _ = _; rw [opAt_in hpl]; exact hop
          obtain ⟨co, hcoq⟩ : ∃ co, costN op = co := ⟨_, rfl⟩
          have HCO : Hid (costN op = co) := hcoq
          have hcb := costN_bd op
          rw [hcoq] at hcb
          clear hop hcoq
          go_wp2_with fail
          refine (costI' op co HCO.out _).mono ?_
          rintro e w2 ⟨rfl, rfl⟩
          by_cases hd : 5000 < cost + co
          · have HE : Hid (cost = X ∧ 0 = T) := by have h := HX.out; rw [run_dear (co := co) (by rw [HOP.out]; exact HCO.out) hd] at h; injection h with h1 h2; exact ⟨h1, h2⟩
            go_wp2
            refine bodyPost_ret (v := .tuple #[.int .i64 cost, .int .i64 0]) (by simp [results, Try.results13, go_sem]) rfl ⟨by rw [HE.out.1, HE.out.2], HR.out.bel⟩
          · obtain ⟨R, hR⟩ : ∃ R, stepR c (p : Int) st rl ce f s 0 = R := ⟨_, rfl⟩
            have HRR : Hid (stepR c (p : Int) st rl ce f s 0 = R) := hR
            have HPN : Hid (¬ (rl.length : Int) ≤ (p : Int)) := by show ¬ _; rw [HLC.out]; omega
            have HBB : Hid (c = true ↔ (CpuR (p : Int) st ∧ I.CodeR rl ∧ (p : Int) < (nc : Int))) := ⟨fun h => ⟨HCR.out, HC.out.1 h, by omega⟩, fun h => HC.out.2 h.2.1⟩
            have HRI : Hid (R.tr = 0 → CpuR R.pc R.st) := fun h => stepR_right HLC.out HBB.out hR h
            clear hR
            have hn8 : n ≤ 1048576 := by have := HLS.out; have := HCR.out.1; omega
            go_wp2_with fail
            refine (costI' op co HCO.out _).mono ?_
            rintro e w3 ⟨rfl, rfl⟩
            go_wp2_with fail
            refine (aloneI qs (p : Int) st n cp (some ⟨g, off, none⟩) rl nc cc qa' ce m ca' f s c R HLS.out hn8 HLC.out hnc HLA.out hm HBB.out HRR.out _ HRS.out (HRC.out.keep HR.out.bel (Nat.le_refl _)) HRA.out).mono ?_
            rintro e w4 ⟨g2, n2, c2, ga2, ca2, rfl, hown2, hownA, hne, hb4⟩
            have HR4 : Hid (R3 w w4 (.slice qa' m ca') f s (p : Int) (.slice qs n cp)) := HR.out.on hb4
            have h3 := HR.out.lt
            have l2 := hown2.ge
            have lA := hownA.ge
            have HR5 : Hid (R3 w (((w4.setCell ⟨w.heap.size + 1 + 1, 0, none⟩ (.int .i64 R.pc)).setCell ⟨w.heap.size + 1 + 1, 1, none⟩ (.slice (some ⟨g2, 0, none⟩) n2 c2)).setCell ⟨w.heap.size, 0, none⟩ (.slice (some ⟨ga2, 0, none⟩) m ca2)) (.slice (some ⟨ga2, 0, none⟩) m ca2) f s R.pc (.slice (some ⟨g2, 0, none⟩) n2 c2)) := (HR4.out.toC _ _).toA _
            have HO5 : Hid (OwnN (((w4.setCell ⟨w.heap.size + 1 + 1, 0, none⟩ (.int .i64 R.pc)).setCell ⟨w.heap.size + 1 + 1, 1, none⟩ (.slice (some ⟨g2, 0, none⟩) n2 c2)).setCell ⟨w.heap.size, 0, none⟩ (.slice (some ⟨ga2, 0, none⟩) m ca2)) w3.heap.size g2 n2 c2 (aloSt R)) := ((hown2.set (by omega)).set (by omega)).set (by omega)
            have HOA5 : Hid (OwnN (((w4.setCell ⟨w.heap.size + 1 + 1, 0, none⟩ (.int .i64 R.pc)).setCell ⟨w.heap.size + 1 + 1, 1, none⟩ (.slice (some ⟨g2, 0, none⟩) n2 c2)).setCell ⟨w.heap.size, 0, none⟩ (.slice (some ⟨ga2, 0, none⟩) m ca2)) w3.heap.size ga2 m ca2 R.ce) := ((hownA.set (by omega)).set (by omega)).set (by omega)
            have HLA5 : Hid (R.ce.length = m) := hownA.len
            have kC4 := row2_cells HR4.out.2.2.1
            have kA4 := row1_cells HR4.out.1
            clear hown2 hownA hne hb4 HR HRS HRA HLS HLA kC kA kR HR4 h3 l2 lA HBB c1
            by_cases htr : aloTr R = 0
            · rcases op_zero op with rfl | ⟨hop0, hop0'⟩
              · have HE : Hid (cost + co = X ∧ aloTr R = T) := by have h := HX.out; rw [run_stop HRR.out HOP.out HCO.out (by have := HPN.out; omega) (by omega) (.inr rfl)] at h; injection h with h1 h2; exact ⟨h1, h2⟩
                go_wp2
                refine bodyPost_ret (v := .tuple #[.int .i64 (cost + co), .int .i64 0]) (by simp [results, Try.results13, go_sem]) rfl ⟨by rw [HE.out.1, ← HE.out.2, htr], HR5.out.bel⟩
              · have HOZ : Hid (op ≠ 0) := hop0'
                have HX' : Hid (runR c rl f s 5000 k R.pc (aloSt R) R.ce (cost + co) = (X, T)) := by have h := HX.out; rw [run_go HRR.out HOP.out HCO.out (by have := HPN.out; omega) (by omega) htr hop0'] at h; exact h
                have HCR' : Hid (CpuR R.pc (aloSt R)) := putA_right _ _ (HRI.out (alo_zero htr))
                clear hop0' HX HCR
                go_wp2
                go_roundg k
                case measure => omega
                case rel => exact ⟨j + 1, cost + co, R.pc, aloSt R, some ⟨g2, 0, none⟩, n2, c2, R.ce, some ⟨ga2, 0, none⟩, ca2, by omega, by go_num, rfl, ⟨by omega, by omega⟩, HX', HR5, HO5.out.rd, HO5.out.len, HOA5.out.rd, HLA5, HCR'⟩
            · have HE : Hid (cost + co = X ∧ aloTr R = T) := by have h := HX.out; rw [run_stop HRR.out HOP.out HCO.out (by have := HPN.out; omega) (by omega) (.inl htr)] at h; injection h with h1 h2; exact ⟨h1, h2⟩
              have hbt : (aloTr R == 0) = false := by simpa using htr
              go_wp2
              refine bodyPost_ret (v := .tuple #[.int .i64 (cost + co), .int .i64 (aloTr R)]) (by simp [results, Try.results13, go_sem]) rfl ⟨by rw [HE.out.1, HE.out.2], HR5.out.bel⟩
end Go.Proofs.Ythnocibkgpofnaa

namespace Go.Proofs.Ythnocibkgpofnaa
open Go.RowKit Go.PlainAid
set_option linter.unusedVariables false

theorem costS2 (op c : Int) (hc : costN op = c) (w : World) : Calls Try.prog 27 #[.int .i64 op] w fun e w' => e = .returned (.int .i64 c) ∧ w' = w := by
  subst hc; exact costS op w
theorem R3.put {w W : World} {pc f s : Int} {sv av : Value} (h : R3 w W av f s pc sv) {k : Nat} (i : Nat) (v : Value) (hk : w.heap.size + 3 ≤ k) : R3 w (W.setCell ⟨k, i, none⟩ v) av f s pc sv :=
  ⟨set_other h.1 (by omega), set_other h.2.1 (by omega), set_other h.2.2.1 (by omega), h.bel.setCell (p := ⟨k, i, none⟩) (by show w.heap.size ≤ k; omega) _⟩
theorem OwnN.room {w : World} {B g n c : Nat} {l : List Int} (h : OwnN w B g n c l) : n ≤ c := by
  obtain ⟨a, cap, e, h1, _⟩ := own_rd h
  injection e with e1 e2 e3
  omega
theorem stepSx (qs : Option Addr) (pc : Int) (st : List Int) (n cp : Nat) (qc : Option Addr) (rl : List (Int × Int)) (nc cc : Nat) (ad : Addr) (ce : List Int) (m ca : Nat) (f s t : Int) (b : Bool) (rp : Int) (rs rc : List Int) (rk ro rn rt : Int) (N : Nat) (hl : st.length = n) (hn : n ≤ 1048576) (hqs : qs = none → n = 0 ∧ cp = 0) (hncp : n ≤ cp) (hlc : rl.length = nc) (hnc : nc ≤ 1048576) (hla : ce.length = m) (hm : m ≤ 1048576) (hb : b = true ↔ (CpuR pc st ∧ I.CodeR rl ∧ pc < (nc : Int))) (hR : stepR b pc st rl ce f s t = ⟨rp, rs, rc, rk, ro, rn, rt⟩) (hN : rs.length = N) (w : World) (hr : Rd w qs st) (hrc : I.RdR w qc rl) (hra : Rd w (some ad) ce) :
    Calls Try.prog 28 #[.agg #[.int .i64 pc, .slice qs n cp], .slice qc nc cc, .agg #[.slice (some ad) m ca], .agg #[.int .i64 f, .int .i64 s], .int .i64 t] w fun e w' => ∃ g2 c2 ga2 ca2, e = .returned (.tuple #[.agg #[.int .i64 rp, .slice (some ⟨g2, 0, none⟩) N c2], .agg #[.slice (some ⟨ga2, 0, none⟩) m ca2], .agg #[.int .i64 rk, .int .i64 ro, .int .i64 rn, .int .i64 rt]]) ∧ OwnN w' w.heap.size g2 N c2 rs ∧ OwnN w' w.heap.size ga2 m ca2 rc ∧ g2 ≠ ga2 ∧ Below w.heap.size w w' :=
  stepS qs pc st n cp qc rl nc cc ad ce m ca f s t b ⟨rp, rs, rc, rk, ro, rn, rt⟩ N hl hn hqs hncp hlc hnc hla hm hb hR hN w hr hrc hra
theorem alo_none {rp : Int} {rs rc : List Int} {rk ro rn rt : Int} (h : ansN rk = 0) : aloTr ⟨rp, rs, rc, rk, ro, rn, rt⟩ = rt := by
  show (if (putA (ansN rk) rs).2 then rt else 4) = rt
  rw [h]; rfl
theorem alo_put {rp : Int} {rs rc l : List Int} {rk ro rn rt : Int} {ok : Bool} {n : Nat} (h : ansN rk = n) (hp : putA n rs = (l, ok)) : aloTr ⟨rp, rs, rc, rk, ro, rn, rt⟩ = (if ok then rt else 4) ∧ aloSt ⟨rp, rs, rc, rk, ro, rn, rt⟩ = l := by
  show (if (putA (ansN rk) rs).2 then rt else 4) = (if ok then rt else 4) ∧ (putA (ansN rk) rs).1 = l
  rw [h, hp]; exact ⟨rfl, rfl⟩

set_option maxRecDepth 100000 in
set_option maxHeartbeats 2000000 in
theorem costRunS (qc : Option Addr) (rl : List (Int × Int)) (nc cc : Nat) (ad : Addr) (ce0 : List Int) (m ca : Nat) (f s most M : Int) (Mn : Nat) (c : Bool) (X T : Int) (hlc : rl.length = nc) (hnc : nc ≤ 1048576) (hla : ce0.length = m) (hm : m ≤ 1048576) (hc : c = true ↔ I.CodeR rl) (hM : min most 5000 = M) (hMn : M.toNat = Mn) (hX : runR c rl f s M Mn 0 [] ce0 0 = (X, T)) (w : World) (hrc : I.RdR w qc rl) (hra : Rd w (some ad) ce0) :
    Calls Try.prog 9 #[.slice qc nc cc, .agg #[.slice (some ad) m ca], .agg #[.int .i64 f, .int .i64 s], .int .i64 most] w fun e w' => e = .returned (.tuple #[.int .i64 X, .int .i64 T]) ∧ Below w.heap.size w w' := by
  have HRC : Hid (I.RdR w qc rl) := hrc
  have HLC : Hid (rl.length = nc) := hlc
  have HC : Hid (c = true ↔ I.CodeR rl) := hc
  have HX : Hid (runR c rl f s M Mn 0 [] ce0 0 = (X, T)) := hX
  have HR0 : Hid (R3 w _ (.slice (some ad) m ca) f s 0 (.slice none 0 0)) := r3_start w (.slice (some ad) m ca) f s 0 (.slice none 0 0)
  have HRA0 : Hid (Rd _ (some ad) ce0) := hra.keep HR0.out.bel (Nat.le_refl _)
  have HLA0 : Hid (ce0.length = m) := hla
  have hM5 : M ≤ 5000 := by omega
  have hMM : M ≤ (Mn : Int) := by omega
  have hw : (most ≤ 5000 ∧ M = most) ∨ (5000 < most ∧ M = 5000) := by omega
  have hnil : Hid (CpuR 0 []) := ⟨by simp, ⟨by decide, by decide⟩, fun i h => absurd h (Nat.not_lt_zero _)⟩
  have HRn : Hid (∀ W, Rd W none []) := fun W h => absurd h (Nat.lt_irrefl _)
  clear hrc hlc hc hX hra hla hM hMn
  go_enter Try.func9, Try.ntmps9
  rcases hw with ⟨hmo, hmm⟩ | ⟨hmo, hmm⟩
  · subst hmm
    go_wp2
    go_loopg [11] Mn (fun gk cv wr => ∃ (cost pc : Int) (st : List Int) (qs : Option Addr) (n cp : Nat) (ce : List Int) (ad' : Addr) (ca' : Nat), cv = .int .i64 cost ∧ M ≤ cost + (gk : Int) ∧ (0 ≤ cost ∧ cost ≤ 5000) ∧ Hid (runR c rl f s M gk pc st ce cost = (X, T)) ∧ Hid (R3 w wr (.slice (some ad') m ca') f s pc (.slice qs n cp)) ∧ Hid (Rd wr qs st) ∧ Hid (st.length = n) ∧ Hid (qs = none → n = 0 ∧ cp = 0) ∧ Hid (n ≤ cp) ∧ Hid (Rd wr (some ad') ce) ∧ Hid (ce.length = m) ∧ Hid (CpuR pc st))
    case atStart => exact ⟨0, 0, [], none, 0, 0, ce0, ad, ca, rfl, by omega, ⟨by decide, by decide⟩, HX, HR0, HRn.out _, rfl, (fun _ => ⟨rfl, rfl⟩), Nat.le_refl _, HRA0, HLA0, hnil⟩
    case round =>
      clear HX HR0 HRA0 HLA0 hnil HRn
      obtain ⟨cost, pc, st, qs, n, cp, ce, ad', ca', rfl, hgM, hco, HX, HR, HRS, HLS, HQN, HNC, HRA, HLA, HCR⟩ := hrel
      have hp0 := HCR.out.2.1.1
      obtain ⟨p, rfl⟩ := Int.eq_ofNat_of_zero_le hp0
      have kC := row2_cells HR.out.2.2.1
      have kA := row1_cells HR.out.1
      have kR := row2_cells HR.out.2.1
      by_cases hpc : (nc : Int) ≤ (p : Int)
      · have HE : Hid (cost = X ∧ 0 = T) := by have h := HX.out; rw [run_end (by rw [HLC.out]; exact hpc)] at h; injection h with h1 h2; exact ⟨h1, h2⟩
        go_wp2
        refine bodyPost_ret (v := .tuple #[.int .i64 cost, .int .i64 0]) (by simp [results, Try.results9, go_sem]) rfl ⟨by rw [HE.out.1, HE.out.2], HR.out.bel⟩
      · have hpl : p < rl.length := by have := HLC.out; omega
        obtain ⟨g, off, rfl, hcc⟩ := HRC.out (by omega)
        have hgl : g < w.heap.size := World.block_lt_of_cell? w ⟨g, off + 0 * 2, none⟩ (hcc 0 (by omega)).1
        have c1 := (HR.out.bel.cell (p := ⟨g, off + p * 2, none⟩) hgl).trans (hcc p hpl).1
        clear hcc
        obtain ⟨op, hop⟩ : ∃ op, rl[p].1 = op := ⟨_, rfl⟩
        rw [hop] at c1
        have HOP : Hid ((opAt' rl (p : Int)).1 = op) := by show _ = _; rw [opAt_in hpl]; exact hop
        obtain ⟨co, hcoq⟩ : ∃ co, costN op = co := ⟨_, rfl⟩
        have HCO : Hid (costN op = co) := hcoq
        have hcb := costN_bd op
        rw [hcoq] at hcb
        clear hop hcoq
        go_wp2_with fail
        refine (costS2 op co HCO.out _).mono ?_
        rintro e w2 ⟨rfl, rfl⟩
        by_cases hd : M < cost + co
        · have HE : Hid (cost = X ∧ 0 = T) := by have h := HX.out; rw [run_dear (co := co) (by rw [HOP.out]; exact HCO.out) hd] at h; injection h with h1 h2; exact ⟨h1, h2⟩
          go_wp2
          refine bodyPost_ret (v := .tuple #[.int .i64 cost, .int .i64 0]) (by simp [results, Try.results9, go_sem]) rfl ⟨by rw [HE.out.1, HE.out.2], HR.out.bel⟩
        · obtain ⟨k, rfl⟩ : ∃ k, gk = k + 1 := ⟨gk - 1, by omega⟩
          obtain ⟨rp, rs, rc, rk, ro, rn, rt, hR⟩ : ∃ rp rs rc rk ro rn rt, stepR c (p : Int) st rl ce f s 0 = ⟨rp, rs, rc, rk, ro, rn, rt⟩ := ⟨_, _, _, _, _, _, _, rfl⟩
          have HRR : Hid (stepR c (p : Int) st rl ce f s 0 = ⟨rp, rs, rc, rk, ro, rn, rt⟩) := hR
          have HPN : Hid (¬ (rl.length : Int) ≤ (p : Int)) := by show ¬ _; rw [HLC.out]; omega
          have HBB : Hid (c = true ↔ (CpuR (p : Int) st ∧ I.CodeR rl ∧ (p : Int) < (nc : Int))) := ⟨fun h => ⟨HCR.out, HC.out.1 h, by omega⟩, fun h => HC.out.2 h.2.1⟩
          have HRI : Hid (rt = 0 → CpuR rp rs) := fun h => stepR_right HLC.out HBB.out hR h
          have HRT : Hid (rt ≠ 0 → (⟨rp, rs, rc, rk, ro, rn, rt⟩ : Res) = trapR (p : Int) st ce rt) := fun h => stepR_trap hR h
          have HGO : Hid (rt = 0 → ansN rk = ansN op) := fun h => by rw [← HOP.out]; exact (stepR_go hR h).2
          obtain ⟨N, hN⟩ : ∃ N, rs.length = N := ⟨_, rfl⟩
          have HN : Hid (rs.length = N) := hN
          clear hR hN
          have hn8 : n ≤ 1048576 := by have := HLS.out; have := HCR.out.1; omega
          go_wp2_with fail
          refine (costS2 op co HCO.out _).mono ?_
          rintro e w3 ⟨rfl, rfl⟩
          go_wp2_with fail
          refine (stepSx qs (p : Int) st n cp (some ⟨g, off, none⟩) rl nc cc ad' ce m ca' f s 0 c rp rs rc rk ro rn rt N HLS.out hn8 HQN.out HNC.out HLC.out hnc HLA.out hm HBB.out HRR.out HN.out _ HRS.out (HRC.out.keep HR.out.bel (Nat.le_refl _)) HRA.out).mono ?_
          rintro e w4 ⟨g2, c2, ga2, ca2, rfl, hown2, hownA, hne, hb4⟩
          have h3 := HR.out.lt
          have l2 := hown2.ge
          have lA := hownA.ge
          have m2 := hown2.lt
          have mA := hownA.lt
          have hb4s := hb4.size
          have HR4 : Hid (R3 w w4 (.slice (some ad') m ca') f s (p : Int) (.slice qs n cp)) := HR.out.on hb4
          have HO4 : Hid (OwnN w4 (w.heap.size + 3) g2 N c2 rs) := hown2.mono (by omega)
          have HOA4 : Hid (OwnN w4 (w.heap.size + 3) ga2 m ca2 rc) := hownA.mono (by omega)
          have HNE : Hid (g2 ≠ ga2) := hne
          clear hown2 hownA hne hb4 HR HRS HRA HLS HLA HQN HNC kC kA kR c1 HBB l2 lA
          by_cases htr : rt = 0
          · subst htr
            have HR5 : Hid (R3 w (((w4.alloc (.cells #[.int .i64 rp, .slice (some ⟨g2, 0, none⟩) N c2] 55)).alloc (.cells #[.slice (some ⟨ga2, 0, none⟩) m ca2] 34)).alloc (.cells #[.int .i64 rk, .int .i64 ro, .int .i64 rn, .int .i64 0] 58)) (.slice (some ad') m ca') f s (p : Int) (.slice qs n cp)) := HR4.out.on (al3_b w4 _ _ _)
            have kC5 := row2_cells (al3_1 w4 (.cells #[.int .i64 rp, .slice (some ⟨g2, 0, none⟩) N c2] 55) (.cells #[.slice (some ⟨ga2, 0, none⟩) m ca2] 34) (.cells #[.int .i64 rk, .int .i64 ro, .int .i64 rn, .int .i64 0] 58))
            have kA5 := row1_cells (al3_2 w4 (.cells #[.int .i64 rp, .slice (some ⟨g2, 0, none⟩) N c2] 55) (.cells #[.slice (some ⟨ga2, 0, none⟩) m ca2] 34) (.cells #[.int .i64 rk, .int .i64 ro, .int .i64 rn, .int .i64 0] 58))
            have kE5 := row4_cells (al3_3 w4 (.cells #[.int .i64 rp, .slice (some ⟨g2, 0, none⟩) N c2] 55) (.cells #[.slice (some ⟨ga2, 0, none⟩) m ca2] 34) (.cells #[.int .i64 rk, .int .i64 ro, .int .i64 rn, .int .i64 0] 58))
            have kA6 := row1_cells HR5.out.1
            have HKO : Hid (ansN rk = ansN op) := HGO.out rfl
            rcases op_zero op with rfl | ⟨hop0, hop0'⟩
            · have HE : Hid (cost + co = X ∧ 0 = T) := by
                have h := HX.out
                rw [run_stop HRR.out HOP.out HCO.out (by have := HPN.out; omega) (by omega) (.inr rfl), alo_none (HKO.out.trans rfl)] at h
                injection h with h1 h2; exact ⟨h1, h2⟩
              go_wp2
              refine bodyPost_ret (v := .tuple #[.int .i64 (cost + co), .int .i64 0]) (by simp [results, Try.results9, go_sem]) rfl ⟨by rw [HE.out.1, HE.out.2], HR5.out.bel⟩
            · have HOZ : Hid (op ≠ 0) := hop0'
              clear hop0'
              obtain ⟨Kn, hKn⟩ : ∃ Kn, ansN op = Kn := ⟨_, rfl⟩
              have HK : Hid (ansN op = Kn) := hKn
              have hK2 : Kn ≤ 2 := by rw [← hKn]; exact ansN_le _
              obtain ⟨KN, hKN⟩ : ∃ KN, w4.heap.size = KN := ⟨_, rfl⟩
              have hKl : w.heap.size + 3 ≤ KN := by rw [← hKN]; exact HR4.out.lt
              obtain ⟨l, ok, hpl⟩ : ∃ l ok, putA Kn rs = (l, ok) := ⟨_, _, rfl⟩
              have HPL : Hid (putA Kn rs = (l, ok)) := hpl
              have HAL : Hid (aloTr ⟨rp, rs, rc, rk, ro, rn, 0⟩ = (if ok then 0 else 4) ∧ aloSt ⟨rp, rs, rc, rk, ro, rn, 0⟩ = l) := alo_put (HKO.out.trans hKn) hpl
              have HCR0 : Hid (CpuR rp rs) := HRI.out rfl
              have HR6 : Hid (R3 w ((((w4.alloc (.cells #[.int .i64 rp, .slice (some ⟨g2, 0, none⟩) N c2] 55)).alloc (.cells #[.slice (some ⟨ga2, 0, none⟩) m ca2] 34)).alloc (.cells #[.int .i64 rk, .int .i64 ro, .int .i64 rn, .int .i64 0] 58)).setCell ⟨w.heap.size, 0, none⟩ (.slice (some ⟨ga2, 0, none⟩) m ca2)) (.slice (some ⟨ga2, 0, none⟩) m ca2) f s (p : Int) (.slice qs n cp)) := HR5.out.toA _
              have HC6 : Hid (((((w4.alloc (.cells #[.int .i64 rp, .slice (some ⟨g2, 0, none⟩) N c2] 55)).alloc (.cells #[.slice (some ⟨ga2, 0, none⟩) m ca2] 34)).alloc (.cells #[.int .i64 rk, .int .i64 ro, .int .i64 rn, .int .i64 0] 58)).setCell ⟨w.heap.size, 0, none⟩ (.slice (some ⟨ga2, 0, none⟩) m ca2)).heap[KN]? = some (.cells #[.int .i64 rp, .slice (some ⟨g2, 0, none⟩) N c2] 55)) := by show _ = _; rw [← hKN]; exact set_other (al3_1 w4 _ _ _) (by omega)
              have HO6 : Hid (OwnN ((((w4.alloc (.cells #[.int .i64 rp, .slice (some ⟨g2, 0, none⟩) N c2] 55)).alloc (.cells #[.slice (some ⟨ga2, 0, none⟩) m ca2] 34)).alloc (.cells #[.int .i64 rk, .int .i64 ro, .int .i64 rn, .int .i64 0] 58)).setCell ⟨w.heap.size, 0, none⟩ (.slice (some ⟨ga2, 0, none⟩) m ca2)) (w.heap.size + 3) g2 N c2 rs) := (HO4.out.on (al3_b w4 _ _ _)).set (by have := HO4.out.ge; omega)
              have HOA6 : Hid (OwnN ((((w4.alloc (.cells #[.int .i64 rp, .slice (some ⟨g2, 0, none⟩) N c2] 55)).alloc (.cells #[.slice (some ⟨ga2, 0, none⟩) m ca2] 34)).alloc (.cells #[.int .i64 rk, .int .i64 ro, .int .i64 rn, .int .i64 0] 58)).setCell ⟨w.heap.size, 0, none⟩ (.slice (some ⟨ga2, 0, none⟩) m ca2)) (w.heap.size + 3) ga2 m ca2 rc) := (HOA4.out.on (al3_b w4 _ _ _)).set (by have := HOA4.out.ge; omega)
              have HLA6 : Hid (rc.length = m) := HOA4.out.len
              have HNK : Hid (g2 ≠ KN ∧ ga2 ≠ KN) := ⟨by omega, by omega⟩
              have hgA : w.heap.size + 3 ≤ ga2 := HOA4.out.ge
              have hgK : ga2 < KN := by omega
              clear hKn hpl HR4 HR5 HO4 HOA4 hb4s m2 mA
              go_wp2
              go_loopg [16] Kn (fun gi kv wi => ∃ (j : Nat) (st' : List Int) (g' n' c' : Nat), j + gi = Kn ∧ kv = .int .i64 j ∧ Hid (putA gi st' = (l, ok)) ∧ Hid (CpuR rp st') ∧ Hid (R3 w wi (.slice (some ⟨ga2, 0, none⟩) m ca2) f s (p : Int) (.slice qs n cp)) ∧ Hid (wi.heap[KN]? = some (.cells #[.int .i64 rp, .slice (some ⟨g', 0, none⟩) n' c'] 55)) ∧ Hid (OwnN wi (w.heap.size + 3) g' n' c' st') ∧ Hid (OwnN wi (w.heap.size + 3) ga2 m ca2 rc) ∧ Hid (g' ≠ KN))
              case atStart => exact ⟨0, rs, g2, N, c2, by omega, rfl, HPL, HCR0, HR6, HC6, HO6, HOA6, HNK.out.1⟩
              case round =>
                clear HPL HCR0 HR6 HC6 HO6 HOA6 HNK
                obtain ⟨j, st', g', n', c', hj, rfl, HP, HC', HR6, HC6, HO6, HOA6, HGK⟩ := hrel
                have kN := row2_cells HC6.out
                have kC := row2_cells HR6.out.2.2.1
                go_wp2_with fail
                refine (answersS' op Kn HK.out _).mono ?_
                rintro e w5 ⟨rfl, rfl⟩
                cases gk with
                | succ gi =>
                  have hjK : (j : Int) < (Kn : Int) := by omega
                  have hst : Hid (st'.length = n') := HO6.out.len
                  have hn8 : n' ≤ 8 := by rw [← HO6.out.len]; exact HC'.out.1
                  by_cases h8 : n' = 8
                  · subst h8
                    have e8 : st'.length = 8 := HO6.out.len
                    have hp := HP.out
                    rw [putA_full e8] at hp
                    injection hp with hp1 hp2
                    have HE : Hid (cost + co = X ∧ 4 = T) := by
                      have ha : aloTr ⟨rp, rs, rc, rk, ro, rn, 0⟩ = 4 := by rw [HAL.out.1, ← hp2]; rfl
                      have h := HX.out
                      rw [run_stop HRR.out HOP.out HCO.out (by have := HPN.out; omega) (by omega) (.inl (by rw [ha]; decide)), ha] at h
                      injection h with h1 h2; exact ⟨h1, h2⟩
                    clear hp1 hp2 e8
                    go_wp2_with fail
                    refine (answerS' (some ⟨g', 0, none⟩) rp st' 8 c' 0 false 8 st' hst.out (by omega) (fun h => by cases h) ⟨(fun h => by cases h), (fun h => (h.2 rfl).elim)⟩ rfl rfl _ HO6.out.rd).mono ?_
                    rintro e w6 ⟨g3, c3, rfl, hown3, hb6⟩
                    have HBF : Hid (Below w.heap.size w (w6.alloc (.cells #[.int .i64 rp, .slice (some ⟨g3, 0, none⟩) 8 c3] 55))) := ((HR6.out.on hb6).on ((Below.refl _ _).alloc (Nat.le_refl _) _)).bel
                    clear hown3 hb6 HR6 HC6 HO6 HOA6 kN kC
                    go_wp2
                    refine bodyPost_ret (v := .tuple #[.int .i64 (cost + co), .int .i64 4]) (by simp [results, Try.results9, go_sem]) rfl ⟨by rw [HE.out.1, HE.out.2], HBF.out⟩
                  · obtain ⟨n3, hn3⟩ : ∃ n3, n' + 1 = n3 := ⟨_, rfl⟩
                    have HN3 : Hid (n' + 1 = n3) := hn3
                    have e8 : st'.length ≠ 8 := by rw [HO6.out.len]; exact h8
                    have HP' : Hid (putA gi (st' ++ [0]) = (l, ok)) := by show _ = _; rw [← putA_more e8]; exact HP.out
                    have HCR' : Hid (CpuR rp (st' ++ [0])) := cpuR_put HC'.out HC'.out.2.1.1 HC'.out.2.1.2 (by have := HC'.out.1; omega) isW_zero
                    have H8 : Hid (n' ≠ 8) := h8
                    clear e8 h8 HP hn3
                    go_wp2_with fail
                    refine (answerS' (some ⟨g', 0, none⟩) rp st' n' c' 0 true n3 (st' ++ [0]) hst.out (by omega) (fun h => by cases h) ⟨(fun _ => ⟨HC'.out, H8.out⟩), (fun _ => rfl)⟩ HN3.out rfl _ HO6.out.rd).mono ?_
                    rintro e w6 ⟨g3, c3, rfl, hown3, hb6⟩
                    have h3l := hown3.lt
                    have h3g := hown3.ge
                    have hKl5 := row_lt HC6.out
                    have hR5l := HR6.out.lt
                    have HR7 : Hid (R3 w (((w6.alloc (.cells #[.int .i64 rp, .slice (some ⟨g3, 0, none⟩) n3 c3] 55)).setCell ⟨KN, 0, none⟩ (.int .i64 rp)).setCell ⟨KN, 1, none⟩ (.slice (some ⟨g3, 0, none⟩) n3 c3)) (.slice (some ⟨ga2, 0, none⟩) m ca2) f s (p : Int) (.slice qs n cp)) := (((HR6.out.on hb6).on ((Below.refl _ _).alloc (Nat.le_refl _) _)).put 0 _ hKl).put 1 _ hKl
                    have HC7 : Hid ((((w6.alloc (.cells #[.int .i64 rp, .slice (some ⟨g3, 0, none⟩) n3 c3] 55)).setCell ⟨KN, 0, none⟩ (.int .i64 rp)).setCell ⟨KN, 1, none⟩ (.slice (some ⟨g3, 0, none⟩) n3 c3)).heap[KN]? = some (.cells #[.int .i64 rp, .slice (some ⟨g3, 0, none⟩) n3 c3] 55)) := two_sets (row_al (row_on HC6.out hb6))
                    have HO7 : Hid (OwnN (((w6.alloc (.cells #[.int .i64 rp, .slice (some ⟨g3, 0, none⟩) n3 c3] 55)).setCell ⟨KN, 0, none⟩ (.int .i64 rp)).setCell ⟨KN, 1, none⟩ (.slice (some ⟨g3, 0, none⟩) n3 c3)) (w.heap.size + 3) g3 n3 c3 (st' ++ [0])) := (((hown3.mono (by omega)).alloc _).set (by omega)).set (by omega)
                    have HOA7 : Hid (OwnN (((w6.alloc (.cells #[.int .i64 rp, .slice (some ⟨g3, 0, none⟩) n3 c3] 55)).setCell ⟨KN, 0, none⟩ (.int .i64 rp)).setCell ⟨KN, 1, none⟩ (.slice (some ⟨g3, 0, none⟩) n3 c3)) (w.heap.size + 3) ga2 m ca2 rc) := (((HOA6.out.on hb6).alloc _).set (by omega)).set (by omega)
                    have HGK7 : Hid (g3 ≠ KN) := by show g3 ≠ KN; omega
                    have kM := row2_cells (heap_new w6 (.cells #[.int .i64 rp, .slice (some ⟨g3, 0, none⟩) n3 c3] 55))
                    have kN7 := row2_cells (row_al (o := .cells #[.int .i64 rp, .slice (some ⟨g3, 0, none⟩) n3 c3] 55) (row_on HC6.out hb6))
                    clear hown3 hb6 HR6 HC6 HO6 HOA6 kN kC h3l h3g hKl5 hR5l hst HC'
                    go_wp2
                    go_roundg gi
                    case measure => omega
                    case rel => exact ⟨j + 1, st' ++ [0], g3, n3, c3, by omega, by go_num, HP', HCR', HR7, HC7, HO7, HOA7, HGK7⟩
                | zero =>
                  obtain rfl : j = Kn := by omega
                  have hp := HP.out
                  rw [putA_zero] at hp
                  injection hp with hp1 hp2
                  have HX' : Hid (runR c rl f s M k rp st' rc (cost + co) = (X, T)) := by
                    have ha : aloTr ⟨rp, rs, rc, rk, ro, rn, 0⟩ = 0 := by rw [HAL.out.1, ← hp2]; rfl
                    have h := HX.out
                    rw [run_go HRR.out HOP.out HCO.out (by have := HPN.out; omega) (by omega) ha HOZ.out, HAL.out.2, ← hp1] at h
                    exact h
                  have HR9 : Hid (R3 w ((w5.setCell ⟨w.heap.size + 1 + 1, 0, none⟩ (.int .i64 rp)).setCell ⟨w.heap.size + 1 + 1, 1, none⟩ (.slice (some ⟨g', 0, none⟩) n' c')) (.slice (some ⟨ga2, 0, none⟩) m ca2) f s rp (.slice (some ⟨g', 0, none⟩) n' c')) := HR6.out.toC _ _
                  have HO9 : Hid (OwnN ((w5.setCell ⟨w.heap.size + 1 + 1, 0, none⟩ (.int .i64 rp)).setCell ⟨w.heap.size + 1 + 1, 1, none⟩ (.slice (some ⟨g', 0, none⟩) n' c')) (w.heap.size + 3) g' n' c' st') := (HO6.out.set (by have := HO6.out.ge; omega)).set (by have := HO6.out.ge; omega)
                  have HOA9 : Hid (OwnN ((w5.setCell ⟨w.heap.size + 1 + 1, 0, none⟩ (.int .i64 rp)).setCell ⟨w.heap.size + 1 + 1, 1, none⟩ (.slice (some ⟨g', 0, none⟩) n' c')) (w.heap.size + 3) ga2 m ca2 rc) := (HOA6.out.set (by omega)).set (by omega)
                  have HRS9 : Hid (Rd ((w5.setCell ⟨w.heap.size + 1 + 1, 0, none⟩ (.int .i64 rp)).setCell ⟨w.heap.size + 1 + 1, 1, none⟩ (.slice (some ⟨g', 0, none⟩) n' c')) (some ⟨g', 0, none⟩) st') := HO9.out.rd
                  have HRA9 : Hid (Rd ((w5.setCell ⟨w.heap.size + 1 + 1, 0, none⟩ (.int .i64 rp)).setCell ⟨w.heap.size + 1 + 1, 1, none⟩ (.slice (some ⟨g', 0, none⟩) n' c')) (some ⟨ga2, 0, none⟩) rc) := HOA9.out.rd
                  clear hp1 hp2 HP HX HCR HR6 HC6 HO6 HOA6
                  go_wp2
                  go_roundg k
                  case measure => omega
                  case rel => exact ⟨cost + co, rp, st', some ⟨g', 0, none⟩, n', c', rc, ⟨ga2, 0, none⟩, ca2, rfl, by omega, ⟨by omega, by omega⟩, HX', HR9, HRS9, HO9.out.len, (fun h => by cases h), HO9.out.room, HRA9, HLA6, HC'⟩
          · have hbt : (rt == 0) = false := by simpa using htr
            have HR5 : Hid (R3 w (((w4.alloc (.cells #[.int .i64 rp, .slice (some ⟨g2, 0, none⟩) N c2] 55)).alloc (.cells #[.slice (some ⟨ga2, 0, none⟩) m ca2] 34)).alloc (.cells #[.int .i64 rk, .int .i64 ro, .int .i64 rn, .int .i64 rt] 58)) (.slice (some ad') m ca') f s (p : Int) (.slice qs n cp)) := HR4.out.on (al3_b w4 _ _ _)
            have kE5 := row4_cells (al3_3 w4 (.cells #[.int .i64 rp, .slice (some ⟨g2, 0, none⟩) N c2] 55) (.cells #[.slice (some ⟨ga2, 0, none⟩) m ca2] 34) (.cells #[.int .i64 rk, .int .i64 ro, .int .i64 rn, .int .i64 rt] 58))
            have HE : Hid (cost + co = X ∧ rt = T) := by
              have h := HX.out
              have ht := HRT.out htr
              have hk : rk = 0 := congrArg Res.k ht
              have h0 : ansN rk = 0 := by rw [hk]; rfl
              rw [run_stop HRR.out HOP.out HCO.out (by have := HPN.out; omega) (by omega) (.inl (by rw [alo_none h0]; exact htr)), alo_none h0] at h
              injection h with h1 h2; exact ⟨h1, h2⟩
            clear htr
            go_wp2
            go_region
            go_wp2
            refine bodyPost_ret (v := .tuple #[.int .i64 (cost + co), .int .i64 rt]) (by simp [results, Try.results9, go_sem]) rfl ⟨by rw [HE.out.1, HE.out.2], HR5.out.bel.drew⟩

  · subst hmm
    go_wp2
    go_loopg [11] Mn (fun gk cv wr => ∃ (cost pc : Int) (st : List Int) (qs : Option Addr) (n cp : Nat) (ce : List Int) (ad' : Addr) (ca' : Nat), cv = .int .i64 cost ∧ 5000 ≤ cost + (gk : Int) ∧ (0 ≤ cost ∧ cost ≤ 5000) ∧ Hid (runR c rl f s 5000 gk pc st ce cost = (X, T)) ∧ Hid (R3 w wr (.slice (some ad') m ca') f s pc (.slice qs n cp)) ∧ Hid (Rd wr qs st) ∧ Hid (st.length = n) ∧ Hid (qs = none → n = 0 ∧ cp = 0) ∧ Hid (n ≤ cp) ∧ Hid (Rd wr (some ad') ce) ∧ Hid (ce.length = m) ∧ Hid (CpuR pc st))
    case atStart => exact ⟨0, 0, [], none, 0, 0, ce0, ad, ca, rfl, by omega, ⟨by decide, by decide⟩, HX, HR0, HRn.out _, rfl, (fun _ => ⟨rfl, rfl⟩), Nat.le_refl _, HRA0, HLA0, hnil⟩
    case round =>
      clear HX HR0 HRA0 HLA0 hnil HRn
      obtain ⟨cost, pc, st, qs, n, cp, ce, ad', ca', rfl, hgM, hco, HX, HR, HRS, HLS, HQN, HNC, HRA, HLA, HCR⟩ := hrel
      have hp0 := HCR.out.2.1.1
      obtain ⟨p, rfl⟩ := Int.eq_ofNat_of_zero_le hp0
      have kC := row2_cells HR.out.2.2.1
      have kA := row1_cells HR.out.1
      have kR := row2_cells HR.out.2.1
      by_cases hpc : (nc : Int) ≤ (p : Int)
      · have HE : Hid (cost = X ∧ 0 = T) := by have h := HX.out; rw [run_end (by rw [HLC.out]; exact hpc)] at h; injection h with h1 h2; exact ⟨h1, h2⟩
        go_wp2
        refine bodyPost_ret (v := .tuple #[.int .i64 cost, .int .i64 0]) (by simp [results, Try.results9, go_sem]) rfl ⟨by rw [HE.out.1, HE.out.2], HR.out.bel⟩
      · have hpl : p < rl.length := by have := HLC.out; omega
        obtain ⟨g, off, rfl, hcc⟩ := HRC.out (by omega)
        have hgl : g < w.heap.size := World.block_lt_of_cell? w ⟨g, off + 0 * 2, none⟩ (hcc 0 (by omega)).1
        have c1 := (HR.out.bel.cell (p := ⟨g, off + p * 2, none⟩) hgl).trans (hcc p hpl).1
        clear hcc
        obtain ⟨op, hop⟩ : ∃ op, rl[p].1 = op := ⟨_, rfl⟩
        rw [hop] at c1
        have HOP : Hid ((opAt' rl (p : Int)).1 = op) := by show _ = _; rw [opAt_in hpl]; exact hop
        obtain ⟨co, hcoq⟩ : ∃ co, costN op = co := ⟨_, rfl⟩
        have HCO : Hid (costN op = co) := hcoq
        have hcb := costN_bd op
        rw [hcoq] at hcb
        clear hop hcoq
        go_wp2_with fail
        refine (costS2 op co HCO.out _).mono ?_
        rintro e w2 ⟨rfl, rfl⟩
        by_cases hd : 5000 < cost + co
        · have HE : Hid (cost = X ∧ 0 = T) := by have h := HX.out; rw [run_dear (co := co) (by rw [HOP.out]; exact HCO.out) hd] at h; injection h with h1 h2; exact ⟨h1, h2⟩
          go_wp2
          refine bodyPost_ret (v := .tuple #[.int .i64 cost, .int .i64 0]) (by simp [results, Try.results9, go_sem]) rfl ⟨by rw [HE.out.1, HE.out.2], HR.out.bel⟩
        · obtain ⟨k, rfl⟩ : ∃ k, gk = k + 1 := ⟨gk - 1, by omega⟩
          obtain ⟨rp, rs, rc, rk, ro, rn, rt, hR⟩ : ∃ rp rs rc rk ro rn rt, stepR c (p : Int) st rl ce f s 0 = ⟨rp, rs, rc, rk, ro, rn, rt⟩ := ⟨_, _, _, _, _, _, _, rfl⟩
          have HRR : Hid (stepR c (p : Int) st rl ce f s 0 = ⟨rp, rs, rc, rk, ro, rn, rt⟩) := hR
          have HPN : Hid (¬ (rl.length : Int) ≤ (p : Int)) := by show ¬ _; rw [HLC.out]; omega
          have HBB : Hid (c = true ↔ (CpuR (p : Int) st ∧ I.CodeR rl ∧ (p : Int) < (nc : Int))) := ⟨fun h => ⟨HCR.out, HC.out.1 h, by omega⟩, fun h => HC.out.2 h.2.1⟩
          have HRI : Hid (rt = 0 → CpuR rp rs) := fun h => stepR_right HLC.out HBB.out hR h
          have HRT : Hid (rt ≠ 0 → (⟨rp, rs, rc, rk, ro, rn, rt⟩ : Res) = trapR (p : Int) st ce rt) := fun h => stepR_trap hR h
          have HGO : Hid (rt = 0 → ansN rk = ansN op) := fun h => by rw [← HOP.out]; exact (stepR_go hR h).2
          obtain ⟨N, hN⟩ : ∃ N, rs.length = N := ⟨_, rfl⟩
          have HN : Hid (rs.length = N) := hN
          clear hR hN
          have hn8 : n ≤ 1048576 := by have := HLS.out; have := HCR.out.1; omega
          go_wp2_with fail
          refine (costS2 op co HCO.out _).mono ?_
          rintro e w3 ⟨rfl, rfl⟩
          go_wp2_with fail
          refine (stepSx qs (p : Int) st n cp (some ⟨g, off, none⟩) rl nc cc ad' ce m ca' f s 0 c rp rs rc rk ro rn rt N HLS.out hn8 HQN.out HNC.out HLC.out hnc HLA.out hm HBB.out HRR.out HN.out _ HRS.out (HRC.out.keep HR.out.bel (Nat.le_refl _)) HRA.out).mono ?_
          rintro e w4 ⟨g2, c2, ga2, ca2, rfl, hown2, hownA, hne, hb4⟩
          have h3 := HR.out.lt
          have l2 := hown2.ge
          have lA := hownA.ge
          have m2 := hown2.lt
          have mA := hownA.lt
          have hb4s := hb4.size
          have HR4 : Hid (R3 w w4 (.slice (some ad') m ca') f s (p : Int) (.slice qs n cp)) := HR.out.on hb4
          have HO4 : Hid (OwnN w4 (w.heap.size + 3) g2 N c2 rs) := hown2.mono (by omega)
          have HOA4 : Hid (OwnN w4 (w.heap.size + 3) ga2 m ca2 rc) := hownA.mono (by omega)
          have HNE : Hid (g2 ≠ ga2) := hne
          clear hown2 hownA hne hb4 HR HRS HRA HLS HLA HQN HNC kC kA kR c1 HBB l2 lA
          by_cases htr : rt = 0
          · subst htr
            have HR5 : Hid (R3 w (((w4.alloc (.cells #[.int .i64 rp, .slice (some ⟨g2, 0, none⟩) N c2] 55)).alloc (.cells #[.slice (some ⟨ga2, 0, none⟩) m ca2] 34)).alloc (.cells #[.int .i64 rk, .int .i64 ro, .int .i64 rn, .int .i64 0] 58)) (.slice (some ad') m ca') f s (p : Int) (.slice qs n cp)) := HR4.out.on (al3_b w4 _ _ _)
            have kC5 := row2_cells (al3_1 w4 (.cells #[.int .i64 rp, .slice (some ⟨g2, 0, none⟩) N c2] 55) (.cells #[.slice (some ⟨ga2, 0, none⟩) m ca2] 34) (.cells #[.int .i64 rk, .int .i64 ro, .int .i64 rn, .int .i64 0] 58))
            have kA5 := row1_cells (al3_2 w4 (.cells #[.int .i64 rp, .slice (some ⟨g2, 0, none⟩) N c2] 55) (.cells #[.slice (some ⟨ga2, 0, none⟩) m ca2] 34) (.cells #[.int .i64 rk, .int .i64 ro, .int .i64 rn, .int .i64 0] 58))
            have kE5 := row4_cells (al3_3 w4 (.cells #[.int .i64 rp, .slice (some ⟨g2, 0, none⟩) N c2] 55) (.cells #[.slice (some ⟨ga2, 0, none⟩) m ca2] 34) (.cells #[.int .i64 rk, .int .i64 ro, .int .i64 rn, .int .i64 0] 58))
            have kA6 := row1_cells HR5.out.1
            have HKO : Hid (ansN rk = ansN op) := HGO.out rfl
            rcases op_zero op with rfl | ⟨hop0, hop0'⟩
            · have HE : Hid (cost + co = X ∧ 0 = T) := by
                have h := HX.out
                rw [run_stop HRR.out HOP.out HCO.out (by have := HPN.out; omega) (by omega) (.inr rfl), alo_none (HKO.out.trans rfl)] at h
                injection h with h1 h2; exact ⟨h1, h2⟩
              go_wp2
              refine bodyPost_ret (v := .tuple #[.int .i64 (cost + co), .int .i64 0]) (by simp [results, Try.results9, go_sem]) rfl ⟨by rw [HE.out.1, HE.out.2], HR5.out.bel⟩
            · have HOZ : Hid (op ≠ 0) := hop0'
              clear hop0'
              obtain ⟨Kn, hKn⟩ : ∃ Kn, ansN op = Kn := ⟨_, rfl⟩
              have HK : Hid (ansN op = Kn) := hKn
              have hK2 : Kn ≤ 2 := by rw [← hKn]; exact ansN_le _
              obtain ⟨KN, hKN⟩ : ∃ KN, w4.heap.size = KN := ⟨_, rfl⟩
              have hKl : w.heap.size + 3 ≤ KN := by rw [← hKN]; exact HR4.out.lt
              obtain ⟨l, ok, hpl⟩ : ∃ l ok, putA Kn rs = (l, ok) := ⟨_, _, rfl⟩
              have HPL : Hid (putA Kn rs = (l, ok)) := hpl
              have HAL : Hid (aloTr ⟨rp, rs, rc, rk, ro, rn, 0⟩ = (if ok then 0 else 4) ∧ aloSt ⟨rp, rs, rc, rk, ro, rn, 0⟩ = l) := alo_put (HKO.out.trans hKn) hpl
              have HCR0 : Hid (CpuR rp rs) := HRI.out rfl
              have HR6 : Hid (R3 w ((((w4.alloc (.cells #[.int .i64 rp, .slice (some ⟨g2, 0, none⟩) N c2] 55)).alloc (.cells #[.slice (some ⟨ga2, 0, none⟩) m ca2] 34)).alloc (.cells #[.int .i64 rk, .int .i64 ro, .int .i64 rn, .int .i64 0] 58)).setCell ⟨w.heap.size, 0, none⟩ (.slice (some ⟨ga2, 0, none⟩) m ca2)) (.slice (some ⟨ga2, 0, none⟩) m ca2) f s (p : Int) (.slice qs n cp)) := HR5.out.toA _
              have HC6 : Hid (((((w4.alloc (.cells #[.int .i64 rp, .slice (some ⟨g2, 0, none⟩) N c2] 55)).alloc (.cells #[.slice (some ⟨ga2, 0, none⟩) m ca2] 34)).alloc (.cells #[.int .i64 rk, .int .i64 ro, .int .i64 rn, .int .i64 0] 58)).setCell ⟨w.heap.size, 0, none⟩ (.slice (some ⟨ga2, 0, none⟩) m ca2)).heap[KN]? = some (.cells #[.int .i64 rp, .slice (some ⟨g2, 0, none⟩) N c2] 55)) := by show _ = _; rw [← hKN]; exact set_other (al3_1 w4 _ _ _) (by omega)
              have HO6 : Hid (OwnN ((((w4.alloc (.cells #[.int .i64 rp, .slice (some ⟨g2, 0, none⟩) N c2] 55)).alloc (.cells #[.slice (some ⟨ga2, 0, none⟩) m ca2] 34)).alloc (.cells #[.int .i64 rk, .int .i64 ro, .int .i64 rn, .int .i64 0] 58)).setCell ⟨w.heap.size, 0, none⟩ (.slice (some ⟨ga2, 0, none⟩) m ca2)) (w.heap.size + 3) g2 N c2 rs) := (HO4.out.on (al3_b w4 _ _ _)).set (by have := HO4.out.ge; omega)
              have HOA6 : Hid (OwnN ((((w4.alloc (.cells #[.int .i64 rp, .slice (some ⟨g2, 0, none⟩) N c2] 55)).alloc (.cells #[.slice (some ⟨ga2, 0, none⟩) m ca2] 34)).alloc (.cells #[.int .i64 rk, .int .i64 ro, .int .i64 rn, .int .i64 0] 58)).setCell ⟨w.heap.size, 0, none⟩ (.slice (some ⟨ga2, 0, none⟩) m ca2)) (w.heap.size + 3) ga2 m ca2 rc) := (HOA4.out.on (al3_b w4 _ _ _)).set (by have := HOA4.out.ge; omega)
              have HLA6 : Hid (rc.length = m) := HOA4.out.len
              have HNK : Hid (g2 ≠ KN ∧ ga2 ≠ KN) := ⟨by omega, by omega⟩
              have hgA : w.heap.size + 3 ≤ ga2 := HOA4.out.ge
              have hgK : ga2 < KN := by omega
              clear hKn hpl HR4 HR5 HO4 HOA4 hb4s m2 mA
              go_wp2
              go_loopg [16] Kn (fun gi kv wi => ∃ (j : Nat) (st' : List Int) (g' n' c' : Nat), j + gi = Kn ∧ kv = .int .i64 j ∧ Hid (putA gi st' = (l, ok)) ∧ Hid (CpuR rp st') ∧ Hid (R3 w wi (.slice (some ⟨ga2, 0, none⟩) m ca2) f s (p : Int) (.slice qs n cp)) ∧ Hid (wi.heap[KN]? = some (.cells #[.int .i64 rp, .slice (some ⟨g', 0, none⟩) n' c'] 55)) ∧ Hid (OwnN wi (w.heap.size + 3) g' n' c' st') ∧ Hid (OwnN wi (w.heap.size + 3) ga2 m ca2 rc) ∧ Hid (g' ≠ KN))
              case atStart => exact ⟨0, rs, g2, N, c2, by omega, rfl, HPL, HCR0, HR6, HC6, HO6, HOA6, HNK.out.1⟩
              case round =>
                clear HPL HCR0 HR6 HC6 HO6 HOA6 HNK
                obtain ⟨j, st', g', n', c', hj, rfl, HP, HC', HR6, HC6, HO6, HOA6, HGK⟩ := hrel
                have kN := row2_cells HC6.out
                have kC := row2_cells HR6.out.2.2.1
                go_wp2_with fail
                refine (answersS' op Kn HK.out _).mono ?_
                rintro e w5 ⟨rfl, rfl⟩
                cases gk with
                | succ gi =>
                  have hjK : (j : Int) < (Kn : Int) := by omega
                  have hst : Hid (st'.length = n') := HO6.out.len
                  have hn8 : n' ≤ 8 := by rw [← HO6.out.len]; exact HC'.out.1
                  by_cases h8 : n' = 8
                  · subst h8
                    have e8 : st'.length = 8 := HO6.out.len
                    have hp := HP.out
                    rw [putA_full e8] at hp
                    injection hp with hp1 hp2
                    have HE : Hid (cost + co = X ∧ 4 = T) := by
                      have ha : aloTr ⟨rp, rs, rc, rk, ro, rn, 0⟩ = 4 := by rw [HAL.out.1, ← hp2]; rfl
                      have h := HX.out
                      rw [run_stop HRR.out HOP.out HCO.out (by have := HPN.out; omega) (by omega) (.inl (by rw [ha]; decide)), ha] at h
                      injection h with h1 h2; exact ⟨h1, h2⟩
                    clear hp1 hp2 e8
                    go_wp2_with fail
                    refine (answerS' (some ⟨g', 0, none⟩) rp st' 8 c' 0 false 8 st' hst.out (by omega) (fun h => by cases h) ⟨(fun h => by cases h), (fun h => (h.2 rfl).elim)⟩ rfl rfl _ HO6.out.rd).mono ?_
                    rintro e w6 ⟨g3, c3, rfl, hown3, hb6⟩
                    have HBF : Hid (Below w.heap.size w (w6.alloc (.cells #[.int .i64 rp, .slice (some ⟨g3, 0, none⟩) 8 c3] 55))) := ((HR6.out.on hb6).on ((Below.refl _ _).alloc (Nat.le_refl _) _)).bel
                    clear hown3 hb6 HR6 HC6 HO6 HOA6 kN kC
                    go_wp2
                    refine bodyPost_ret (v := .tuple #[.int .i64 (cost + co), .int .i64 4]) (by simp [results, Try.results9, go_sem]) rfl ⟨by rw [HE.out.1, HE.out.2], HBF.out⟩
                  · obtain ⟨n3, hn3⟩ : ∃ n3, n' + 1 = n3 := ⟨_, rfl⟩
                    have HN3 : Hid (n' + 1 = n3) := hn3
                    have e8 : st'.length ≠ 8 := by rw [HO6.out.len]; exact h8
                    have HP' : Hid (putA gi (st' ++ [0]) = (l, ok)) := by show _ = _; rw [← putA_more e8]; exact HP.out
                    have HCR' : Hid (CpuR rp (st' ++ [0])) := cpuR_put HC'.out HC'.out.2.1.1 HC'.out.2.1.2 (by have := HC'.out.1; omega) isW_zero
                    have H8 : Hid (n' ≠ 8) := h8
                    clear e8 h8 HP hn3
                    go_wp2_with fail
                    refine (answerS' (some ⟨g', 0, none⟩) rp st' n' c' 0 true n3 (st' ++ [0]) hst.out (by omega) (fun h => by cases h) ⟨(fun _ => ⟨HC'.out, H8.out⟩), (fun _ => rfl)⟩ HN3.out rfl _ HO6.out.rd).mono ?_
                    rintro e w6 ⟨g3, c3, rfl, hown3, hb6⟩
                    have h3l := hown3.lt
                    have h3g := hown3.ge
                    have hKl5 := row_lt HC6.out
                    have hR5l := HR6.out.lt
                    have HR7 : Hid (R3 w (((w6.alloc (.cells #[.int .i64 rp, .slice (some ⟨g3, 0, none⟩) n3 c3] 55)).setCell ⟨KN, 0, none⟩ (.int .i64 rp)).setCell ⟨KN, 1, none⟩ (.slice (some ⟨g3, 0, none⟩) n3 c3)) (.slice (some ⟨ga2, 0, none⟩) m ca2) f s (p : Int) (.slice qs n cp)) := (((HR6.out.on hb6).on ((Below.refl _ _).alloc (Nat.le_refl _) _)).put 0 _ hKl).put 1 _ hKl
                    have HC7 : Hid ((((w6.alloc (.cells #[.int .i64 rp, .slice (some ⟨g3, 0, none⟩) n3 c3] 55)).setCell ⟨KN, 0, none⟩ (.int .i64 rp)).setCell ⟨KN, 1, none⟩ (.slice (some ⟨g3, 0, none⟩) n3 c3)).heap[KN]? = some (.cells #[.int .i64 rp, .slice (some ⟨g3, 0, none⟩) n3 c3] 55)) := two_sets (row_al (row_on HC6.out hb6))
                    have HO7 : Hid (OwnN (((w6.alloc (.cells #[.int .i64 rp, .slice (some ⟨g3, 0, none⟩) n3 c3] 55)).setCell ⟨KN, 0, none⟩ (.int .i64 rp)).setCell ⟨KN, 1, none⟩ (.slice (some ⟨g3, 0, none⟩) n3 c3)) (w.heap.size + 3) g3 n3 c3 (st' ++ [0])) := (((hown3.mono (by omega)).alloc _).set (by omega)).set (by omega)
                    have HOA7 : Hid (OwnN (((w6.alloc (.cells #[.int .i64 rp, .slice (some ⟨g3, 0, none⟩) n3 c3] 55)).setCell ⟨KN, 0, none⟩ (.int .i64 rp)).setCell ⟨KN, 1, none⟩ (.slice (some ⟨g3, 0, none⟩) n3 c3)) (w.heap.size + 3) ga2 m ca2 rc) := (((HOA6.out.on hb6).alloc _).set (by omega)).set (by omega)
                    have HGK7 : Hid (g3 ≠ KN) := by show g3 ≠ KN; omega
                    have kM := row2_cells (heap_new w6 (.cells #[.int .i64 rp, .slice (some ⟨g3, 0, none⟩) n3 c3] 55))
                    have kN7 := row2_cells (row_al (o := .cells #[.int .i64 rp, .slice (some ⟨g3, 0, none⟩) n3 c3] 55) (row_on HC6.out hb6))
                    clear hown3 hb6 HR6 HC6 HO6 HOA6 kN kC h3l h3g hKl5 hR5l hst HC'
                    go_wp2
                    go_roundg gi
                    case measure => omega
                    case rel => exact ⟨j + 1, st' ++ [0], g3, n3, c3, by omega, by go_num, HP', HCR', HR7, HC7, HO7, HOA7, HGK7⟩
                | zero =>
                  obtain rfl : j = Kn := by omega
                  have hp := HP.out
                  rw [putA_zero] at hp
                  injection hp with hp1 hp2
                  have HX' : Hid (runR c rl f s 5000 k rp st' rc (cost + co) = (X, T)) := by
                    have ha : aloTr ⟨rp, rs, rc, rk, ro, rn, 0⟩ = 0 := by rw [HAL.out.1, ← hp2]; rfl
                    have h := HX.out
                    rw [run_go HRR.out HOP.out HCO.out (by have := HPN.out; omega) (by omega) ha HOZ.out, HAL.out.2, ← hp1] at h
                    exact h
                  have HR9 : Hid (R3 w ((w5.setCell ⟨w.heap.size + 1 + 1, 0, none⟩ (.int .i64 rp)).setCell ⟨w.heap.size + 1 + 1, 1, none⟩ (.slice (some ⟨g', 0, none⟩) n' c')) (.slice (some ⟨ga2, 0, none⟩) m ca2) f s rp (.slice (some ⟨g', 0, none⟩) n' c')) := HR6.out.toC _ _
                  have HO9 : Hid (OwnN ((w5.setCell ⟨w.heap.size + 1 + 1, 0, none⟩ (.int .i64 rp)).setCell ⟨w.heap.size + 1 + 1, 1, none⟩ (.slice (some ⟨g', 0, none⟩) n' c')) (w.heap.size + 3) g' n' c' st') := (HO6.out.set (by have := HO6.out.ge; omega)).set (by have := HO6.out.ge; omega)
                  have HOA9 : Hid (OwnN ((w5.setCell ⟨w.heap.size + 1 + 1, 0, none⟩ (.int .i64 rp)).setCell ⟨w.heap.size + 1 + 1, 1, none⟩ (.slice (some ⟨g', 0, none⟩) n' c')) (w.heap.size + 3) ga2 m ca2 rc) := (HOA6.out.set (by omega)).set (by omega)
                  have HRS9 : Hid (Rd ((w5.setCell ⟨w.heap.size + 1 + 1, 0, none⟩ (.int .i64 rp)).setCell ⟨w.heap.size + 1 + 1, 1, none⟩ (.slice (some ⟨g', 0, none⟩) n' c')) (some ⟨g', 0, none⟩) st') := HO9.out.rd
                  have HRA9 : Hid (Rd ((w5.setCell ⟨w.heap.size + 1 + 1, 0, none⟩ (.int .i64 rp)).setCell ⟨w.heap.size + 1 + 1, 1, none⟩ (.slice (some ⟨g', 0, none⟩) n' c')) (some ⟨ga2, 0, none⟩) rc) := HOA9.out.rd
                  clear hp1 hp2 HP HX HCR HR6 HC6 HO6 HOA6
                  go_wp2
                  go_roundg k
                  case measure => omega
                  case rel => exact ⟨cost + co, rp, st', some ⟨g', 0, none⟩, n', c', rc, ⟨ga2, 0, none⟩, ca2, rfl, by omega, ⟨by omega, by omega⟩, HX', HR9, HRS9, HO9.out.len, (fun h => by cases h), HO9.out.room, HRA9, HLA6, HC'⟩
          · have hbt : (rt == 0) = false := by simpa using htr
            have HR5 : Hid (R3 w (((w4.alloc (.cells #[.int .i64 rp, .slice (some ⟨g2, 0, none⟩) N c2] 55)).alloc (.cells #[.slice (some ⟨ga2, 0, none⟩) m ca2] 34)).alloc (.cells #[.int .i64 rk, .int .i64 ro, .int .i64 rn, .int .i64 rt] 58)) (.slice (some ad') m ca') f s (p : Int) (.slice qs n cp)) := HR4.out.on (al3_b w4 _ _ _)
            have kE5 := row4_cells (al3_3 w4 (.cells #[.int .i64 rp, .slice (some ⟨g2, 0, none⟩) N c2] 55) (.cells #[.slice (some ⟨ga2, 0, none⟩) m ca2] 34) (.cells #[.int .i64 rk, .int .i64 ro, .int .i64 rn, .int .i64 rt] 58))
            have HE : Hid (cost + co = X ∧ rt = T) := by
              have h := HX.out
              have ht := HRT.out htr
              have hk : rk = 0 := congrArg Res.k ht
              have h0 : ansN rk = 0 := by rw [hk]; rfl
              rw [run_stop HRR.out HOP.out HCO.out (by have := HPN.out; omega) (by omega) (.inl (by rw [alo_none h0]; exact htr)), alo_none h0] at h
              injection h with h1 h2; exact ⟨h1, h2⟩
            clear htr
            go_wp2
            go_region
            go_wp2
            refine bodyPost_ret (v := .tuple #[.int .i64 (cost + co), .int .i64 rt]) (by simp [results, Try.results9, go_sem]) rfl ⟨by rw [HE.out.1, HE.out.2], HR5.out.bel.drew⟩

end Go.Proofs.Ythnocibkgpofnaa

namespace Go.Proofs.Ythnocibkgpofnaa
open Go.RowKit Go.PlainAid
set_option linter.unusedVariables false

section
variable {c : Bool} {rl : List (Int × Int)} {f s : Int}
theorem run_ge {most : Int} : ∀ (k : Nat) (pc : Int) (st ce : List Int) (cost : Int), cost ≤ (runR c rl f s most k pc st ce cost).1
  | 0, pc, st, ce, cost => Int.le_refl _
  | k + 1, pc, st, ce, cost => by
      have hb := costN_bd (opAt' rl pc).1
      by_cases h1 : (rl.length : Int) ≤ pc
      · rw [run_end h1]; exact Int.le_refl _
      · by_cases h2 : most < cost + costN (opAt' rl pc).1
        · rw [run_dear rfl h2]; exact Int.le_refl _
        · by_cases h3 : aloTr (stepR c pc st rl ce f s 0) ≠ 0 ∨ (opAt' rl pc).1 = 0
          · rw [run_stop rfl rfl rfl h1 h2 h3]; show cost ≤ cost + _; omega
          · have h4 : aloTr (stepR c pc st rl ce f s 0) = 0 := by
              by_cases h : aloTr (stepR c pc st rl ce f s 0) = 0
              · exact h
              · exact absurd (.inl h) h3
            rw [run_go rfl rfl rfl h1 h2 h4 (fun h => h3 (.inr h))]
            have := run_ge (most := most) k (stepR c pc st rl ce f s 0).pc (aloSt (stepR c pc st rl ce f s 0)) (stepR c pc st rl ce f s 0).ce (cost + costN (opAt' rl pc).1)
            omega
theorem run_le {most : Int} : ∀ (k : Nat) (pc : Int) (st ce : List Int) (cost : Int), (runR c rl f s most k pc st ce cost).1 ≤ max cost most
  | 0, pc, st, ce, cost => by show cost ≤ max cost most; omega
  | k + 1, pc, st, ce, cost => by
      have hb := costN_bd (opAt' rl pc).1
      by_cases h1 : (rl.length : Int) ≤ pc
      · rw [run_end h1]; show cost ≤ max cost most; omega
      · by_cases h2 : most < cost + costN (opAt' rl pc).1
        · rw [run_dear rfl h2]; show cost ≤ max cost most; omega
        · by_cases h3 : aloTr (stepR c pc st rl ce f s 0) ≠ 0 ∨ (opAt' rl pc).1 = 0
          · rw [run_stop rfl rfl rfl h1 h2 h3]; show cost + _ ≤ max cost most; omega
          · have h4 : aloTr (stepR c pc st rl ce f s 0) = 0 := by
              by_cases h : aloTr (stepR c pc st rl ce f s 0) = 0
              · exact h
              · exact absurd (.inl h) h3
            rw [run_go rfl rfl rfl h1 h2 h4 (fun h => h3 (.inr h))]
            have := run_le (most := most) k (stepR c pc st rl ce f s 0).pc (aloSt (stepR c pc st rl ce f s 0)) (stepR c pc st rl ce f s 0).ce (cost + costN (opAt' rl pc).1)
            omega
theorem run_mono {most most' : Int} (hm : most ≤ most') : ∀ (k k' : Nat) (pc : Int) (st ce : List Int) (cost : Int), most' ≤ cost + (k' : Int) → (runR c rl f s most k pc st ce cost).1 ≤ (runR c rl f s most' k' pc st ce cost).1
  | 0, k', pc, st, ce, cost, hk => run_ge k' pc st ce cost
  | k + 1, k', pc, st, ce, cost, hk => by
      have hb := costN_bd (opAt' rl pc).1
      by_cases h1 : (rl.length : Int) ≤ pc
      · rw [run_end (most := most) h1]; exact run_ge k' pc st ce cost
      · by_cases h2 : most < cost + costN (opAt' rl pc).1
        · rw [run_dear (most := most) rfl h2]; exact run_ge k' pc st ce cost
        · have h2' : ¬ most' < cost + costN (opAt' rl pc).1 := by omega
          obtain ⟨j, rfl⟩ : ∃ j, k' = j + 1 := ⟨k' - 1, by omega⟩
          by_cases h3 : aloTr (stepR c pc st rl ce f s 0) ≠ 0 ∨ (opAt' rl pc).1 = 0
          · rw [run_stop rfl rfl rfl h1 h2 h3, run_stop rfl rfl rfl h1 h2' h3]; exact Int.le_refl _
          · have h4 : aloTr (stepR c pc st rl ce f s 0) = 0 := by
              by_cases h : aloTr (stepR c pc st rl ce f s 0) = 0
              · exact h
              · exact absurd (.inl h) h3
            rw [run_go rfl rfl rfl h1 h2 h4 (fun h => h3 (.inr h)), run_go rfl rfl rfl h1 h2' h4 (fun h => h3 (.inr h))]
            exact run_mono hm k j _ _ _ _ (by omega)
end
end Go.Proofs.Ythnocibkgpofnaa
