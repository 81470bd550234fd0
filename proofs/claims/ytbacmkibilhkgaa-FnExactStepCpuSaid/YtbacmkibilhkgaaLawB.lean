/-
  How long a step's answer is.
-/
import Derived.Test.YtbacmkibilhkgaaAl
namespace Go.Proofs.Ytbacmkibilhkgaa
open Go.RowKit Go.PlainAid
set_option linter.unusedVariables false
/-- an answer no longer than it may be -/
def SzOk (L m : Nat) (R : Res) : Prop := R.st.length ≤ L ∧ R.ce.length = m
theorem szOk_ite {L m : Nat} {p : Prop} [Decidable p] {R Q : Res} (h1 : SzOk L m R) (h2 : SzOk L m Q) : SzOk L m (if p then R else Q) := by
  split
  · exact h1
  · exact h2
theorem stepV_size {pc : Int} {st ce : List Int} {f s t op arg : Int} {m : Nat} (hla : ce.length = m) : SzOk (st.length + 2) m (stepV pc st ce f s t op arg) := by
  unfold stepV doV
  have h : (st.take (st.length - needs op)).length ≤ st.length := by rw [List.length_take]; omega
  repeat' apply szOk_ite
  all_goals (unfold SzOk; simp only [trapR, okR, List.length_append, List.length_cons, List.length_nil, stL_len]; omega)
theorem stepR_size {b : Bool} {pc : Int} {st : List Int} {rl : List (Int × Int)} {ce : List Int} {f s t : Int} {R : Res} {n nc m : Nat} (hl : st.length = n) (hla : ce.length = m) (hn : n ≤ 1048576) (hB : b = true ↔ (CpuR pc st ∧ I.CodeR rl ∧ pc < (nc : Int))) (hR : stepR b pc st rl ce f s t = R) : R.st.length ≤ 1048576 ∧ R.ce.length = m := by
  subst hR
  unfold stepR cpuV
  cases b
  · exact ⟨by show st.length ≤ _; omega, hla⟩
  · have h8 := (hB.1 rfl).1.1
    have h := stepV_size (pc := pc) (st := st) (f := f) (s := s) (t := t) (op := (opAt' rl pc).1) (arg := (opAt' rl pc).2) hla
    exact ⟨by have := h.1; simp only [if_true]; omega, h.2⟩
end Go.Proofs.Ytbacmkibilhkgaa
