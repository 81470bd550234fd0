/-
  One instruction at work: the box of it, and what takes numbers from the stack and puts them on it.
-/
import Derived.Test.YthnocibkgpofnaaAns
namespace Go.Proofs.Ythnocibkgpofnaa
open Go.RowKit Go.PlainAid
set_option linter.unusedVariables false

/-- the box of an instruction at work -/
def StepIs (w : World) (bs : Nat) (op arg t f s pc : Int) (sv av : Value) (k po nu tr a b : Int) : Prop :=
  w.heap[bs]? = some (.cells #[.int .i64 op, .int .i64 arg, .int .i64 t, .int .i64 f, .int .i64 s, .int .i64 pc, sv, av, .int .i64 k, .int .i64 po, .int .i64 nu, .int .i64 tr, .int .i64 a, .int .i64 b] 104)
section
variable {w w' : World} {bs : Nat} {op arg t f s pc : Int} {sv av : Value} {k po nu tr a b : Int}
theorem StepIs.lt (h : StepIs w bs op arg t f s pc sv av k po nu tr a b) : bs < w.heap.size := row_lt h
theorem StepIs.facts (h : StepIs w bs op arg t f s pc sv av k po nu tr a b) :
    w.cell? ⟨bs, 0, none⟩ = some (.int .i64 op) ∧ w.cell? ⟨bs, 1, none⟩ = some (.int .i64 arg) ∧ w.cell? ⟨bs, 2, none⟩ = some (.int .i64 t) ∧ w.cell? ⟨bs, 3, none⟩ = some (.int .i64 f) ∧ w.cell? ⟨bs, 4, none⟩ = some (.int .i64 s) ∧ w.cell? ⟨bs, 5, none⟩ = some (.int .i64 pc) ∧ w.cell? ⟨bs, 6, none⟩ = some sv ∧ w.cell? ⟨bs, 7, none⟩ = some av ∧ w.cell? ⟨bs, 8, none⟩ = some (.int .i64 k) ∧ w.cell? ⟨bs, 9, none⟩ = some (.int .i64 po) ∧ w.cell? ⟨bs, 10, none⟩ = some (.int .i64 nu) ∧ w.cell? ⟨bs, 11, none⟩ = some (.int .i64 tr) ∧ w.cell? ⟨bs, 12, none⟩ = some (.int .i64 a) ∧ w.cell? ⟨bs, 13, none⟩ = some (.int .i64 b) ∧ ∀ i, w.frozen? ⟨bs, i, none⟩ = false := by
  refine ⟨?_, ?_, ?_, ?_, ?_, ?_, ?_, ?_, ?_, ?_, ?_, ?_, ?_, ?_, fun i => frozen_of_row w bs i _ _ h⟩ <;> (rw [cell_of_row w bs _ _ _ (0, 0) h]; rfl)
theorem StepIs.on (h : StepIs w bs op arg t f s pc sv av k po nu tr a b) (hb : Below w.heap.size w w') : StepIs w' bs op arg t f s pc sv av k po nu tr a b := row_on h hb
theorem StepIs.setPc (h : StepIs w bs op arg t f s pc sv av k po nu tr a b) (x : Int) : StepIs (w.setCell ⟨bs, 5, none⟩ (.int .i64 x)) bs op arg t f s x sv av k po nu tr a b := set1_row h
theorem StepIs.setS (h : StepIs w bs op arg t f s pc sv av k po nu tr a b) (x : Value) : StepIs (w.setCell ⟨bs, 6, none⟩ x) bs op arg t f s pc x av k po nu tr a b := set1_row h
theorem StepIs.setA (h : StepIs w bs op arg t f s pc sv av k po nu tr a b) (x : Value) : StepIs (w.setCell ⟨bs, 7, none⟩ x) bs op arg t f s pc sv x k po nu tr a b := set1_row h
theorem StepIs.set8 (h : StepIs w bs op arg t f s pc sv av k po nu tr a b) (x : Int) : StepIs (w.setCell ⟨bs, 8, none⟩ (.int .i64 x)) bs op arg t f s pc sv av x po nu tr a b := set1_row h
theorem StepIs.set9 (h : StepIs w bs op arg t f s pc sv av k po nu tr a b) (x : Int) : StepIs (w.setCell ⟨bs, 9, none⟩ (.int .i64 x)) bs op arg t f s pc sv av k x nu tr a b := set1_row h
theorem StepIs.set10 (h : StepIs w bs op arg t f s pc sv av k po nu tr a b) (x : Int) : StepIs (w.setCell ⟨bs, 10, none⟩ (.int .i64 x)) bs op arg t f s pc sv av k po x tr a b := set1_row h
theorem StepIs.set11 (h : StepIs w bs op arg t f s pc sv av k po nu tr a b) (x : Int) : StepIs (w.setCell ⟨bs, 11, none⟩ (.int .i64 x)) bs op arg t f s pc sv av k po nu x a b := set1_row h
theorem StepIs.seta (h : StepIs w bs op arg t f s pc sv av k po nu tr a b) (x : Int) : StepIs (w.setCell ⟨bs, 12, none⟩ (.int .i64 x)) bs op arg t f s pc sv av k po nu tr x b := set1_row h
theorem StepIs.setb (h : StepIs w bs op arg t f s pc sv av k po nu tr a b) (x : Int) : StepIs (w.setCell ⟨bs, 13, none⟩ (.int .i64 x)) bs op arg t f s pc sv av k po nu tr a x := set1_row h
theorem StepIs.setE (h : StepIs w bs op arg t f s pc sv av k po nu tr a b) (x y z u : Int) : StepIs ((((w.setCell ⟨bs, 8, none⟩ (.int .i64 x)).setCell ⟨bs, 9, none⟩ (.int .i64 y)).setCell ⟨bs, 10, none⟩ (.int .i64 z)).setCell ⟨bs, 11, none⟩ (.int .i64 u)) bs op arg t f s pc sv av x y z u a b :=
  (((h.set8 x).set9 y).set10 z).set11 u
theorem StepIs.drew (h : StepIs w bs op arg t f s pc sv av k po nu tr a b) : StepIs w.drew bs op arg t f s pc sv av k po nu tr a b := h
end
theorem grown_put4 (w : World) (C i j k l : Nat) (x y z u : Value) : w.grownBy ((((w.setCell ⟨C, i, none⟩ x).setCell ⟨C, j, none⟩ y).setCell ⟨C, k, none⟩ z).setCell ⟨C, l, none⟩ u) (some C) :=
  grown_trans' (grown_trans' (grown_trans' (grown_put _ _ _ _) (grown_put _ _ _ _)) (grown_put _ _ _ _)) (grown_put _ _ _ _)

set_option maxRecDepth 100000 in
set_option maxHeartbeats 400000 in
theorem trapI (w : World) (bs : Nat) (op arg t f s pc : Int) (sv av : Value) (k po nu tr a b c : Int) (h : StepIs w bs op arg t f s pc sv av k po nu tr a b) :
    Calls Try.prog 79 #[.pointer (some ⟨bs, 0, none⟩), .int .i64 c] w fun e w' => e = .returned (.tuple #[]) ∧ StepIs w' bs op arg t f s pc sv av 0 0 0 c a b ∧ w.grownBy w' (some bs) := by
  have HS : Hid (StepIs _ _ _ _ _ _ _ _ _ _ _ _ _ _ _ _) := h
  have kf := h.facts
  clear h
  go_enter Try.func79, Try.ntmps79
  go_wp2
  go_end0
  exact ⟨rfl, HS.out.setE 0 0 0 c, grown_put4 _ _ _ _ _ _ _ _ _ _⟩

set_option maxRecDepth 100000 in
set_option maxHeartbeats 1000000 in
theorem take0I (w : World) (bs : Nat) (op arg t f s pc : Int) (q : Option Addr) (cp : Nat) (av : Value) (k po nu tr a b : Int) (h : StepIs w bs op arg t f s pc (.slice q 0 cp) av k po nu tr a b) :
    Calls Try.prog 96 #[.pointer (some ⟨bs, 0, none⟩)] w fun e w' => e = .returned (.int .i64 0) ∧ StepIs w' bs op arg t f s pc (.slice q 0 cp) av 0 0 0 5 a b ∧ w.grownBy w' (some bs) := by
  have HS : Hid (StepIs _ _ _ _ _ _ _ _ _ _ _ _ _ _ _ _) := h
  have kf := h.facts
  clear h
  go_enter Try.func96, Try.ntmps96
  go_wp2_with fail
  clear kf
  refine (trapI w bs op arg t f s pc (.slice q 0 cp) av k po nu tr a b 5 HS.out).mono ?_
  rintro e w1 ⟨rfl, h1, hg⟩
  have HS1 : Hid (StepIs _ _ _ _ _ _ _ _ _ _ _ _ _ _ _ _) := h1
  have HG : Hid (w.grownBy w1 _) := hg
  clear h1 hg
  go_wp2
  go_ret
  exact ⟨rfl, HS1.out, HG.out⟩

set_option maxRecDepth 100000 in
set_option maxHeartbeats 1000000 in
theorem take1I (w : World) (bs g m cp : Nat) (x : Int) (op arg t f s pc : Int) (av : Value) (k po nu tr a b : Int) (hm : m ≤ 1048576) (hc : m + 1 ≤ cp) (h : StepIs w bs op arg t f s pc (.slice (some ⟨g, 0, none⟩) (m + 1) cp) av k po nu tr a b) (hx : w.cell? ⟨g, m, none⟩ = some (.int .i64 x)) :
    Calls Try.prog 96 #[.pointer (some ⟨bs, 0, none⟩)] w fun e w' => e = .returned (.int .i64 x) ∧ StepIs w' bs op arg t f s pc (.slice (some ⟨g, 0, none⟩) m cp) av k po nu tr a b ∧ w.grownBy w' (some bs) := by
  have HS : Hid (StepIs _ _ _ _ _ _ _ _ _ _ _ _ _ _ _ _) := h
  have kf := h.facts
  clear h
  go_enter Try.func96, Try.ntmps96
  go_wp2
  go_ret
  exact ⟨rfl, HS.out.setS _, grown_put _ _ _ _⟩
end Go.Proofs.Ythnocibkgpofnaa
