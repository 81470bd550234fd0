/-
  The laws' own comparing of lists of numbers.
-/
import Derived.Test.YtbacmkibilhkgaaAl
import Derived.Test.YtbacmkibilhkgaaOuts
namespace Go.Proofs.Ytbacmkibilhkgaa
open Go.RowKit Go.PlainAid
set_option linter.unusedVariables false
theorem sameI (a b : Option Addr) (l : List Int) (n ca cb : Nat) (hl : l.length = n) (hn : n ≤ 1048576) (w : World) (ha : Rd w a l) (hb : Rd w b l) :
    Calls Try.prog 36 #[.slice a n ca, .slice b n cb] w fun e w' => e = .returned (.bool true) ∧ Below w.heap.size w w' := by
  by_cases hp : 0 < n
  · obtain ⟨g, o1, rfl, hcg⟩ := ha (by omega)
    obtain ⟨h, o2, rfl, hch⟩ := hb (by omega)
    have HA : Hid (∀ j (hj : j < l.length), w.cell? ⟨g, o1 + j, none⟩ = some (.int .i64 l[j])) := hcg
    have HB : Hid (∀ j (hj : j < l.length), w.cell? ⟨h, o2 + j, none⟩ = some (.int .i64 l[j])) := hch
    have HL : Hid (l.length = n) := hl
    clear ha hb hcg hch hl
    go_enter Try.func36, Try.ntmps36
    go_wp2
    go_loopw [5] (fun i wr => ∃ (j q : Nat), j ≤ n ∧ i = .int .i64 j ∧ wr = w.drewN q) (fun i _ => n - (intOf i).toNat)
    case atStart => exact ⟨0, 0, Nat.zero_le _, rfl, rfl⟩
    case round =>
      obtain ⟨j, q, hj, rfl, rfl⟩ := hrel
      by_cases hlt : j < n
      · have c1 := HA.out j (by have := HL.out; omega)
        have c2 := HB.out j (by have := HL.out; omega)
        generalize l[j]'(by have := HL.out; omega) = x at c1 c2
        have i0 : (0 : Int) ≤ (j : Int) := by omega
        have i1 : (j : Int) < (n : Int) := by omega
        go_wp2
        go_quiet (fail)
        go_wp2
        go_roundw
        case rel => exact ⟨j + 1, q + nq, by omega, by go_num, rfl⟩
        case measure => simp [intOf]; omega
      · go_wp2
        go_ret
        exact ⟨rfl, below_drewN (Below.refl _ _) _⟩
  · obtain rfl : n = 0 := by omega
    clear ha hb hp
    go_enter Try.func36, Try.ntmps36
    go_wp2
    go_rounds 1
    go_ret
    exact ⟨rfl, Below.refl _ _⟩

end Go.Proofs.Ytbacmkibilhkgaa

namespace Go.Proofs.Ytbacmkibilhkgaa
open Go.RowKit Go.PlainAid
set_option linter.unusedVariables false
/-- an answer no longer than it may be -/
def SzOk (L m : Nat) (R : Res) : Prop := R.st.length ≤ L ∧ R.ce.length = m
theorem szOk_ite {L m : Nat} {p : Prop} [Decidable p] {R Q : Res} (h1 : SzOk L m R) (h2 : SzOk L m Q) : SzOk L m (if p then R else Q) := by
  split
  · exact h1
  · exact h2
theorem stepV_size {pc : Int} {st ce : List Int} {f s t op arg : Int} {m : Nat} (hla : ce.length = m) : SzOk (st.length + 2) m (stepV pc st ce f s t op arg) := by
  unfold stepV doV
  have h : (st.take (st.length - needs op)).length ≤ st.length := by rw [List.length_take]; omega
  repeat' apply szOk_ite
  all_goals (unfold SzOk; simp only [trapR, okR, List.length_append, List.length_cons, List.length_nil, stL_len]; omega)
theorem stepR_size {b : Bool} {pc : Int} {st : List Int} {rl : List (Int × Int)} {ce : List Int} {f s t : Int} {R : Res} {n nc m : Nat} (hl : st.length = n) (hla : ce.length = m) (hn : n ≤ 1048576) (hB : b = true ↔ (CpuR pc st ∧ I.CodeR rl ∧ pc < (nc : Int))) (hR : stepR b pc st rl ce f s t = R) : R.st.length ≤ 1048576 ∧ R.ce.length = m := by
  subst hR
  unfold stepR cpuV
  cases b
  · exact ⟨by show st.length ≤ _; omega, hla⟩
  · have h8 := (hB.1 rfl).1.1
    have h := stepV_size (pc := pc) (st := st) (f := f) (s := s) (t := t) (op := (opAt' rl pc).1) (arg := (opAt' rl pc).2) hla
    exact ⟨by have := h.1; simp only [if_true]; omega, h.2⟩
end Go.Proofs.Ytbacmkibilhkgaa

namespace Go.Proofs.Ytbacmkibilhkgaa
open Go.RowKit Go.PlainAid
set_option linter.unusedVariables false
theorem sameC (a b : Option Addr) (pc : Int) (l : List Int) (n ca cb : Nat) (hl : l.length = n) (hn : n ≤ 1048576) (w : World) (ha : Rd w a l) (hb : Rd w b l) :
    Calls Try.prog 35 #[.agg #[.int .i64 pc, .slice a n ca], .agg #[.int .i64 pc, .slice b n cb]] w fun e w' => e = .returned (.bool true) ∧ Below w.heap.size w w' := by
  have HB : Hid (Below w.heap.size w ((w.alloc (.cells #[.int .i64 pc, .slice a n ca] 27)).alloc (.cells #[.int .i64 pc, .slice b n cb] 27))) := al2_b w _ _
  have HRa : Hid (Rd _ _ _) := ha.keep HB.out (Nat.le_refl _)
  have HRb : Hid (Rd _ _ _) := hb.keep HB.out (Nat.le_refl _)
  have HL : Hid (l.length = n) := hl
  clear ha hb hl
  go_enter Try.func35, Try.ntmps35
  go_wp2_with fail
  refine (sameI a b l n ca cb HL.out hn _ HRa.out HRb.out).mono ?_
  rintro e w1 ⟨rfl, hb1⟩
  have HW : Hid (Below w.heap.size w w1) := HB.out.trans (hb1.mono HB.out.size)
  clear hb1
  go_wp2
  go_ret
  exact ⟨rfl, HW.out⟩
theorem cpuR_pc {pc p : Int} {l : List Int} (h : CpuR pc l) (h0 : 0 ≤ p) (h1 : p ≤ 60) : CpuR p l := ⟨h.1, ⟨h0, h1⟩, h.2.2⟩
theorem cpuR_put {pc p : Int} {l : List Int} {y : Int} (h : CpuR pc l) (h0 : 0 ≤ p) (h1 : p ≤ 60) (hl : l.length + 1 ≤ 8) (hy : isW y) : CpuR p (l ++ [y]) := by
  refine ⟨by simp; omega, ⟨h0, h1⟩, fun i hi => ?_⟩
  by_cases hlt : i < l.length
  · rw [List.getElem_append_left hlt]; exact h.2.2 i hlt
  · have : i = l.length := by simp at hi; omega
    subst this
    simp
    exact hy
def RightOk (R : Res) : Prop := R.tr = 0 → CpuR R.pc R.st
theorem rightOk_ite {p : Prop} [Decidable p] {R Q : Res} (h1 : p → RightOk R) (h2 : ¬ p → RightOk Q) : RightOk (if p then R else Q) := by
  split
  · rename_i h; exact h1 h
  · rename_i h; exact h2 h
theorem rightOk_trap (pc : Int) (st ce : List Int) (c : Int) (hc : c ≠ 0) : RightOk (trapR pc st ce c) := fun h => absurd h hc
set_option maxRecDepth 100000 in
set_option maxHeartbeats 1000000 in
theorem stepV_right {pc : Int} {st ce : List Int} {f s t op arg : Int} (hc : CpuR pc st) (hp : pc + 1 ≤ 60) (ha : 0 ≤ arg ∧ arg ≤ 255) (ho : 0 ≤ op) : RightOk (stepV pc st ce f s t op arg) := by
  have h0 := hc.2.1.1
  have h8 := hc.1
  have hu := cpuR_take hc (st.length - needs op)
  have hul : (st.take (st.length - needs op)).length = st.length - needs op := by rw [List.length_take]; omega
  have hm0 : 0 ≤ min arg 60 := by omega
  have hm1 : min arg 60 ≤ 60 := by omega
  unfold stepV
  refine rightOk_ite (fun _ => rightOk_trap _ _ _ _ (by decide)) (fun hbig => ?_)
  refine rightOk_ite (fun _ => rightOk_trap _ _ _ _ (by decide)) (fun hlow => ?_)
  generalize hU : st.take (st.length - needs op) = u at *
  unfold doV
  refine rightOk_ite (fun _ _ => cpuR_pc hu (by show 0 ≤ pc + 1; omega) hp) (fun n0 => ?_)
  refine rightOk_ite (fun e1 => rightOk_ite (fun _ => rightOk_trap _ _ _ _ (by decide)) (fun e8 _ => cpuR_put hu (by show 0 ≤ pc + 1; omega) hp (by omega) (isW_mod _))) (fun n1 => ?_)
  refine rightOk_ite (fun e2 => rightOk_ite (fun _ _ => cpuR_put hu (by show 0 ≤ pc + 1; omega) hp (by subst e2; have : needs 2 = 1 := rfl; omega) (isW_mod _)) (fun _ => rightOk_trap _ _ _ _ (by decide))) (fun n2 => ?_)
  refine rightOk_ite (fun e3 => rightOk_ite (fun _ _ => cpuR_pc hu (by show 0 ≤ pc + 1; omega) hp) (fun _ => rightOk_trap _ _ _ _ (by decide))) (fun n3 => ?_)
  refine rightOk_ite (fun e4 _ => cpuR_put hu (by show 0 ≤ pc + 1; omega) hp (by subst e4; have : needs 4 = 2 := rfl; omega) (isW_mod _)) (fun n4 => ?_)
  refine rightOk_ite (fun e5 _ => cpuR_put hu (by show 0 ≤ pc + 1; omega) hp (by subst e5; have : needs 5 = 2 := rfl; omega) (isW_mod _)) (fun n5 => ?_)
  refine rightOk_ite (fun e6 _ => cpuR_put hu (by show 0 ≤ pc + 1; omega) hp (by subst e6; have : needs 6 = 2 := rfl; omega) (isW_mod _)) (fun n6 => ?_)
  refine rightOk_ite (fun e7 => rightOk_ite (fun _ => rightOk_trap _ _ _ _ (by decide)) (fun _ _ => cpuR_put hu (by show 0 ≤ pc + 1; omega) hp (by subst e7; have : needs 7 = 2 := rfl; omega) (isW_mod _))) (fun n7 => ?_)
  refine rightOk_ite (fun e8 _ => cpuR_put hu (by show 0 ≤ pc + 1; omega) hp (by subst e8; have : needs 8 = 2 := rfl; omega) (isW_mod _)) (fun n8 => ?_)
  refine rightOk_ite (fun e9 _ => cpuR_pc hu hm0 hm1) (fun n9 => ?_)
  refine rightOk_ite (fun e10 _ => cpuR_pc hu (by show 0 ≤ (if st.getD (st.length - 1) 0 = 0 then min arg 60 else pc + 1); split <;> omega) (by show (if st.getD (st.length - 1) 0 = 0 then min arg 60 else pc + 1) ≤ 60; split <;> omega)) (fun n10 => ?_)
  refine rightOk_ite (fun e11 => rightOk_ite (fun _ => rightOk_trap _ _ _ _ (by decide)) (fun e8 _ => cpuR_put (cpuR_put (p := pc + 1) hu (by omega) hp (by subst e11; have : needs 11 = 1 := rfl; omega) (isW_mod _)) (by show 0 ≤ pc + 1; omega) hp (by simp; subst e11; have : needs 11 = 1 := rfl; omega) (isW_mod _))) (fun n11 => ?_)
  refine rightOk_ite (fun e12 _ => cpuR_pc hu (by show 0 ≤ pc + 1; omega) hp) (fun n12 => ?_)
  refine rightOk_ite (fun e13 _ => cpuR_pc hu (by show 0 ≤ pc + 1; omega) hp) (fun n13 => ?_)
  refine rightOk_ite (fun e14 _ => cpuR_pc hu (by show 0 ≤ pc + 1; omega) hp) (fun n14 => ?_)
  refine rightOk_ite (fun e15 _ => cpuR_pc hu (by show 0 ≤ pc + 1; omega) hp) (fun n15 => ?_)
  refine rightOk_ite (fun e16 _ => cpuR_pc hu (by show 0 ≤ pc + 1; omega) hp) (fun n16 => ?_)
  exact rightOk_ite (fun _ => rightOk_trap _ _ _ _ (by decide)) (fun e8 _ => cpuR_put hu (by show 0 ≤ pc + 1; omega) hp (by omega) (isW_mod _))
theorem stepR_right {b : Bool} {pc : Int} {st : List Int} {rl : List (Int × Int)} {ce : List Int} {f s t : Int} {R : Res} {nc : Nat} (hlc : rl.length = nc) (hB : b = true ↔ (CpuR pc st ∧ I.CodeR rl ∧ pc < (nc : Int))) (hR : stepR b pc st rl ce f s t = R) (h0 : R.tr = 0) : CpuR R.pc R.st := by
  subst hR
  unfold stepR cpuV at h0 ⊢
  cases b
  · exact absurd h0 (show (6 : Int) ≠ 0 by decide)
  · obtain ⟨hc, hk, hp⟩ := hB.1 rfl
    obtain ⟨j, rfl⟩ := Int.eq_ofNat_of_zero_le hc.2.1.1
    have hj : j < rl.length := by omega
    have hb := hk.2 j hj
    have h60 := hk.1
    have e : opAt' rl (j : Int) = rl[j] := by
      unfold opAt'
      rw [Int.toNat_natCast, List.getD_eq_getElem?_getD, List.getElem?_eq_getElem hj]
      rfl
    rw [e] at h0 ⊢
    exact stepV_right hc (by omega) hb.2 hb.1.1 h0
theorem stepR_trap {b : Bool} {pc : Int} {st : List Int} {rl : List (Int × Int)} {ce : List Int} {f s t : Int} {R : Res} (hR : stepR b pc st rl ce f s t = R) (h0 : R.tr ≠ 0) : R = trapR pc st ce R.tr := by
  subst hR
  unfold stepR cpuV at h0 ⊢
  cases b
  · rfl
  · exact stepV_trap rfl h0
end Go.Proofs.Ytbacmkibilhkgaa
