/-
  What one instruction does, plainly.
-/
import Derived.Test.YthnocibkgpofnaaRun0
namespace Go.Proofs.Ythnocibkgpofnaa
open Go.RowKit Go.PlainAid
set_option linter.unusedVariables false

/-- a machine, cells and an effect -/
structure Res where
  pc : Int
  st : List Int
  ce : List Int
  k : Int
  po : Int
  nu : Int
  tr : Int
def trapR (pc : Int) (st ce : List Int) (c : Int) : Res := ⟨pc, st, ce, 0, 0, 0, c⟩
def okR (pc : Int) (st ce : List Int) : Res := ⟨pc, st, ce, 0, 0, 0, 0⟩
def needs (op : Int) : Nat := if op = 2 ∨ op = 10 ∨ op = 11 ∨ op = 12 ∨ op = 13 ∨ op = 16 then 1 else if 3 ≤ op ∧ op ≤ 8 then 2 else 0
/-- .. with numbers enough: u is what is left of the stack, x its top, y the one below -/
def doV (pc : Int) (st u : List Int) (x y : Int) (ce : List Int) (f s t op arg : Int) : Res :=
  if op = 0 then okR (pc + 1) u ce
  else if op = 1 then (if st.length = 8 then trapR pc st ce 4 else okR (pc + 1) (u ++ [arg % 65536]) ce)
  else if op = 2 then (if ldB ce.length f s (x + arg) = true then okR (pc + 1) (u ++ [ldX ce f s (x + arg) % 65536]) ce else trapR pc st ce 2)
  else if op = 3 then (if ldB ce.length f s (y + arg) = true then okR (pc + 1) u (stL ce f s (y + arg) x) else trapR pc st ce 2)
  else if op = 4 then okR (pc + 1) (u ++ [(y + x) % 65536]) ce
  else if op = 5 then okR (pc + 1) (u ++ [(y - x) % 65536]) ce
  else if op = 6 then okR (pc + 1) (u ++ [(y * x) % 65536]) ce
  else if op = 7 then (if x = 0 then trapR pc st ce 3 else okR (pc + 1) (u ++ [(y.tdiv x) % 65536]) ce)
  else if op = 8 then okR (pc + 1) (u ++ [(if y < x then 1 else 0) % 65536]) ce
  else if op = 9 then okR (min arg 60) u ce
  else if op = 10 then okR (if x = 0 then min arg 60 else pc + 1) u ce
  else if op = 11 then (if st.length = 8 then trapR pc st ce 4 else okR (pc + 1) (u ++ [x % 65536] ++ [x % 65536]) ce)
  else if op = 12 then okR (pc + 1) u ce
  else if op = 13 then ⟨pc + 1, u, ce, 13, arg, x, 0⟩
  else if op = 14 then ⟨pc + 1, u, ce, 14, arg, 0, 0⟩
  else if op = 15 then ⟨pc + 1, u, ce, 15, arg, 0, 0⟩
  else if op = 16 then ⟨pc + 1, u, ce, 16, arg, x, 0⟩
  else (if st.length = 8 then trapR pc st ce 4 else okR (pc + 1) (u ++ [t % 65536]) ce)
def stepV (pc : Int) (st ce : List Int) (f s t op arg : Int) : Res :=
  if 17 < op then trapR pc st ce 1
  else if st.length < needs op then trapR pc st ce 5
  else doV pc st (st.take (st.length - needs op)) (st.getD (st.length - 1) 0) (st.getD (st.length - 2) 0) ce f s t op arg
/-- .. of a machine and code, right or not -/
def cpuV (b : Bool) (pc : Int) (st ce : List Int) (f s t op arg : Int) : Res := if b then stepV pc st ce f s t op arg else trapR pc st ce 6

/-- what an instruction that has run leaves in its box -/
def RunPost (w' : World) (B bs : Nat) (op arg t f s : Int) (m : Nat) (R : Res) : Prop :=
  (R.tr ≠ 0 ∧ ∃ pc' sv' av' a' b', StepIs w' bs op arg t f s pc' sv' av' 0 0 0 R.tr a' b') ∨
  (R.tr = 0 ∧ ∃ n2 g2 c2 ga2 ca2 a' b', R.st.length = n2 ∧ StepIs w' bs op arg t f s R.pc (.slice (some ⟨g2, 0, none⟩) n2 c2) (.slice (some ⟨ga2, 0, none⟩) m ca2) R.k R.po R.nu 0 a' b' ∧ OwnN w' B g2 n2 c2 R.st ∧ OwnN w' B ga2 m ca2 R.ce ∧ g2 ≠ ga2 ∧ g2 ≠ bs ∧ ga2 ≠ bs)

theorem OwnN.cut {w : World} {B g n c q : Nat} {l : List Int} (h : OwnN w B g n c l) (hq : q ≤ n) : OwnN w B g q c (l.take q) := by
  have hl := h.len
  rcases h.2 with ⟨hv, _⟩ | ⟨g', cap, cur, hv, h1, h2, h3, h4, h5, h6⟩
  · cases hv
  · cases hv
    refine ⟨by rw [intsV_len]; simp; omega, .inr ⟨g, c, cur, rfl, h1, h2, by omega, h4, h5, ?_⟩⟩
    have e : intsV (l.take q) = (intsV l).take q := by simp [intsV]
    rw [e, ← h6, List.take_take]
    congr 1
    omega
theorem cpuR_take {pc : Int} {st : List Int} (h : CpuR pc st) (q : Nat) : CpuR pc (st.take q) :=
  ⟨by have := h.1; simp; omega, h.2.1, fun i hi => by
    have : i < st.length := by simp at hi; omega
    rw [List.getElem_take]; exact h.2.2 i this⟩
theorem OwnN.top {w : World} {B g n c j : Nat} {l : List Int} (h : OwnN w B g n c l) (hj : j < n) : w.cell? ⟨g, j, none⟩ = some (.int .i64 (l.getD j 0)) := by
  have hl := h.len
  have := (own_at h (j := j) (by omega)).1
  rw [this]
  simp [show j < l.length by omega]
theorem cpuR_top {pc : Int} {st : List Int} (h : CpuR pc st) {j : Nat} (hj : j < st.length) : isW (st.getD j 0) := by
  have := h.2.2 j hj
  simpa [hj] using this
end Go.Proofs.Ythnocibkgpofnaa
