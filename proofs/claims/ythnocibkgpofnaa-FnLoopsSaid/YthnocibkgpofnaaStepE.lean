/-
  A step of the program: an instruction at work.
-/
import Derived.Test.YthnocibkgpofnaaStepD
namespace Go.Proofs.Ythnocibkgpofnaa
open Go.RowKit Go.PlainAid
set_option linter.unusedVariables false

theorem hid {p : Prop} (h : p) : Hid p := h
section
variable {w : World} {bs : Nat} {op arg t f s pc : Int} {sv av : Value} {k po nu tr a b : Int}
theorem StepIs.set0 (h : StepIs w bs op arg t f s pc sv av k po nu tr a b) (x : Int) : StepIs (w.setCell ⟨bs, 0, none⟩ (.int .i64 x)) bs x arg t f s pc sv av k po nu tr a b := set1_row h
theorem StepIs.set1 (h : StepIs w bs op arg t f s pc sv av k po nu tr a b) (x : Int) : StepIs (w.setCell ⟨bs, 1, none⟩ (.int .i64 x)) bs op x t f s pc sv av k po nu tr a b := set1_row h
theorem StepIs.set2 (h : StepIs w bs op arg t f s pc sv av k po nu tr a b) (x : Int) : StepIs (w.setCell ⟨bs, 2, none⟩ (.int .i64 x)) bs op arg x f s pc sv av k po nu tr a b := set1_row h
theorem StepIs.set3 (h : StepIs w bs op arg t f s pc sv av k po nu tr a b) (x : Int) : StepIs (w.setCell ⟨bs, 3, none⟩ (.int .i64 x)) bs op arg t x s pc sv av k po nu tr a b := set1_row h
theorem StepIs.set4 (h : StepIs w bs op arg t f s pc sv av k po nu tr a b) (x : Int) : StepIs (w.setCell ⟨bs, 4, none⟩ (.int .i64 x)) bs op arg t f x pc sv av k po nu tr a b := set1_row h
/-- the box of an instruction, just made -/
theorem step_new {W W' : World} (hb : Below (W.alloc (.cells #[.int .i64 0, .int .i64 0, .int .i64 0, .int .i64 0, .int .i64 0, .int .i64 0, .slice none 0 0, .slice none 0 0, .int .i64 0, .int .i64 0, .int .i64 0, .int .i64 0, .int .i64 0, .int .i64 0] 104)).heap.size (W.alloc (.cells #[.int .i64 0, .int .i64 0, .int .i64 0, .int .i64 0, .int .i64 0, .int .i64 0, .slice none 0 0, .slice none 0 0, .int .i64 0, .int .i64 0, .int .i64 0, .int .i64 0, .int .i64 0, .int .i64 0] 104)) W') : StepIs W' W.heap.size 0 0 0 0 0 0 (.slice none 0 0) (.slice none 0 0) 0 0 0 0 0 0 := row_on (heap_new W _) hb
end
theorem StepIs.set14 {w : World} {bs : Nat} {op0 arg0 t0 f0 s0 pc0 : Int} {sv0 av0 : Value} {k0 po0 nu0 tr0 a0 b0 : Int} (h : StepIs w bs op0 arg0 t0 f0 s0 pc0 sv0 av0 k0 po0 nu0 tr0 a0 b0) (op arg t f s pc : Int) (sv av : Value) (k po nu tr a b : Int) :
    StepIs ((((((((((((((w.setCell ⟨bs, 0, none⟩ (.int .i64 op)).setCell ⟨bs, 1, none⟩ (.int .i64 arg)).setCell ⟨bs, 2, none⟩ (.int .i64 t)).setCell ⟨bs, 3, none⟩ (.int .i64 f)).setCell ⟨bs, 4, none⟩ (.int .i64 s)).setCell ⟨bs, 5, none⟩ (.int .i64 pc)).setCell ⟨bs, 6, none⟩ sv).setCell ⟨bs, 7, none⟩ av).setCell ⟨bs, 8, none⟩ (.int .i64 k)).setCell ⟨bs, 9, none⟩ (.int .i64 po)).setCell ⟨bs, 10, none⟩ (.int .i64 nu)).setCell ⟨bs, 11, none⟩ (.int .i64 tr)).setCell ⟨bs, 12, none⟩ (.int .i64 a)).setCell ⟨bs, 13, none⟩ (.int .i64 b)) bs op arg t f s pc sv av k po nu tr a b :=
  (((((((((((((h.set0 op).set1 arg).set2 t).set3 f).set4 s).setPc pc).setS sv).setA av).set8 k).set9 po).set10 nu).set11 tr).seta a).setb b
theorem below_set14 {B : Nat} {w0 W : World} {k : Nat} {x0 x1 x2 x3 x4 x5 x6 x7 x8 x9 x10 x11 x12 x13 : Value} (h : Below B w0 W) (hk : B ≤ k) : Below B w0 ((((((((((((((W.setCell ⟨k, 0, none⟩ x0).setCell ⟨k, 1, none⟩ x1).setCell ⟨k, 2, none⟩ x2).setCell ⟨k, 3, none⟩ x3).setCell ⟨k, 4, none⟩ x4).setCell ⟨k, 5, none⟩ x5).setCell ⟨k, 6, none⟩ x6).setCell ⟨k, 7, none⟩ x7).setCell ⟨k, 8, none⟩ x8).setCell ⟨k, 9, none⟩ x9).setCell ⟨k, 10, none⟩ x10).setCell ⟨k, 11, none⟩ x11).setCell ⟨k, 12, none⟩ x12).setCell ⟨k, 13, none⟩ x13) := ((((((((((((((h.setCell hk _).setCell hk _).setCell hk _).setCell hk _).setCell hk _).setCell hk _).setCell hk _).setCell hk _).setCell hk _).setCell hk _).setCell hk _).setCell hk _).setCell hk _).setCell hk _)
theorem OwnN.set14 {W : World} {B g n c k : Nat} {l : List Int} {x0 x1 x2 x3 x4 x5 x6 x7 x8 x9 x10 x11 x12 x13 : Value} (h : OwnN W B g n c l) (hk : g ≠ k) : OwnN ((((((((((((((W.setCell ⟨k, 0, none⟩ x0).setCell ⟨k, 1, none⟩ x1).setCell ⟨k, 2, none⟩ x2).setCell ⟨k, 3, none⟩ x3).setCell ⟨k, 4, none⟩ x4).setCell ⟨k, 5, none⟩ x5).setCell ⟨k, 6, none⟩ x6).setCell ⟨k, 7, none⟩ x7).setCell ⟨k, 8, none⟩ x8).setCell ⟨k, 9, none⟩ x9).setCell ⟨k, 10, none⟩ x10).setCell ⟨k, 11, none⟩ x11).setCell ⟨k, 12, none⟩ x12).setCell ⟨k, 13, none⟩ x13) B g n c l := ((((((((((((((h.set hk).set hk).set hk).set hk).set hk).set hk).set hk).set hk).set hk).set hk).set hk).set hk).set hk).set hk)
theorem s7_keep {W0 W' : World} {p0 p1 p2 p3 p4 p5 p6 : Addr} {v0 v1 v2 v3 v4 v5 v6 : Value} (h : W0.cell? p0 = some v0 ∧ W0.cell? p1 = some v1 ∧ W0.cell? p2 = some v2 ∧ W0.cell? p3 = some v3 ∧ W0.cell? p4 = some v4 ∧ W0.cell? p5 = some v5 ∧ W0.cell? p6 = some v6) (hB : Below W0.heap.size W0 W') :
    W'.cell? p0 = some v0 ∧ W'.cell? p1 = some v1 ∧ W'.cell? p2 = some v2 ∧ W'.cell? p3 = some v3 ∧ W'.cell? p4 = some v4 ∧ W'.cell? p5 = some v5 ∧ W'.cell? p6 = some v6 ∧ Below W0.heap.size W0 W' :=
  ⟨cell_on h.1 hB, cell_on h.2.1 hB, cell_on h.2.2.1 hB, cell_on h.2.2.2.1 hB, cell_on h.2.2.2.2.1 hB, cell_on h.2.2.2.2.2.1 hB, cell_on h.2.2.2.2.2.2 hB, hB⟩
theorem s7_on {W0 W W' : World} {p0 p1 p2 p3 p4 p5 p6 : Addr} {v0 v1 v2 v3 v4 v5 v6 : Value} (hb : Below W.heap.size W W') (h : W.cell? p0 = some v0 ∧ W.cell? p1 = some v1 ∧ W.cell? p2 = some v2 ∧ W.cell? p3 = some v3 ∧ W.cell? p4 = some v4 ∧ W.cell? p5 = some v5 ∧ W.cell? p6 = some v6 ∧ Below W0.heap.size W0 W) : Below W0.heap.size W0 W' := bel_on (Nat.le_refl _) h.2.2.2.2.2.2.2 hb
theorem s7_bel {W0 W : World} {p0 p1 p2 p3 p4 p5 p6 : Addr} {v0 v1 v2 v3 v4 v5 v6 : Value} (h : W.cell? p0 = some v0 ∧ W.cell? p1 = some v1 ∧ W.cell? p2 = some v2 ∧ W.cell? p3 = some v3 ∧ W.cell? p4 = some v4 ∧ W.cell? p5 = some v5 ∧ W.cell? p6 = some v6 ∧ Below W0.heap.size W0 W) : Below W0.heap.size W0 W := h.2.2.2.2.2.2.2
theorem s7_alloc {W0 W : World} {p0 p1 p2 p3 p4 p5 p6 : Addr} {v0 v1 v2 v3 v4 v5 v6 : Value} (h : W.cell? p0 = some v0 ∧ W.cell? p1 = some v1 ∧ W.cell? p2 = some v2 ∧ W.cell? p3 = some v3 ∧ W.cell? p4 = some v4 ∧ W.cell? p5 = some v5 ∧ W.cell? p6 = some v6 ∧ Below W0.heap.size W0 W) (o : Obj) : Below W0.heap.size W0 (W.alloc o) := h.2.2.2.2.2.2.2.alloc h.2.2.2.2.2.2.2.size o

/-- an instruction that is about to run -/
def Begun (W0 W : World) (bs g ga : Nat) (op arg t f s pc : Int) (n m : Nat) (st ce : List Int) : Prop :=
  StepIs W bs op arg t f s pc (.slice (some ⟨g, 0, none⟩) n n) (.slice (some ⟨ga, 0, none⟩) m m) 0 0 0 0 0 0 ∧ OwnN W W0.heap.size g n n st ∧ OwnN W W0.heap.size ga m m ce ∧ W0.heap.size ≤ bs ∧ g ≠ ga ∧ g ≠ bs ∧ ga ≠ bs ∧ Below W0.heap.size W0 W
theorem begun_alloc {W0 W : World} {g ga n m : Nat} {st ce : List Int} {op arg t f s pc : Int} (hB : Below W0.heap.size W0 W) (h1 : OwnN W W0.heap.size g n n st) (h2 : OwnN W W0.heap.size ga m m ce) (hne : g ≠ ga) :
    Begun W0 (W.alloc (.cells #[.int .i64 op, .int .i64 arg, .int .i64 t, .int .i64 f, .int .i64 s, .int .i64 pc, .slice (some ⟨g, 0, none⟩) n n, .slice (some ⟨ga, 0, none⟩) m m, .int .i64 0, .int .i64 0, .int .i64 0, .int .i64 0, .int .i64 0, .int .i64 0] 104)) W.heap.size g ga op arg t f s pc n m st ce :=
  ⟨heap_new W _, h1.alloc _, h2.alloc _, hB.size, hne, Nat.ne_of_lt h1.lt, Nat.ne_of_lt h2.lt, hB.alloc hB.size _⟩
theorem begun_set {W0 w : World} {bs g ga n m : Nat} {st ce : List Int} {op arg t f s pc : Int} (hB : Below W0.heap.size W0 w) (hz : StepIs w bs 0 0 0 0 0 0 (.slice none 0 0) (.slice none 0 0) 0 0 0 0 0 0) (h1 : OwnN w W0.heap.size g n n st) (h2 : OwnN w W0.heap.size ga m m ce) (hne : g ≠ ga) (hb : W0.heap.size ≤ bs) (hgb : g ≠ bs) (hab : ga ≠ bs) :
    Begun W0 ((((((((((((((w.setCell ⟨bs, 0, none⟩ (.int .i64 op)).setCell ⟨bs, 1, none⟩ (.int .i64 arg)).setCell ⟨bs, 2, none⟩ (.int .i64 t)).setCell ⟨bs, 3, none⟩ (.int .i64 f)).setCell ⟨bs, 4, none⟩ (.int .i64 s)).setCell ⟨bs, 5, none⟩ (.int .i64 pc)).setCell ⟨bs, 6, none⟩ (.slice (some ⟨g, 0, none⟩) n n)).setCell ⟨bs, 7, none⟩ (.slice (some ⟨ga, 0, none⟩) m m)).setCell ⟨bs, 8, none⟩ (.int .i64 0)).setCell ⟨bs, 9, none⟩ (.int .i64 0)).setCell ⟨bs, 10, none⟩ (.int .i64 0)).setCell ⟨bs, 11, none⟩ (.int .i64 0)).setCell ⟨bs, 12, none⟩ (.int .i64 0)).setCell ⟨bs, 13, none⟩ (.int .i64 0)) bs g ga op arg t f s pc n m st ce :=
  ⟨hz.set14 op arg t f s pc _ _ 0 0 0 0 0 0, h1.set14 hgb, h2.set14 hab, hb, hne, hgb, hab, below_set14 hB hb⟩

theorem e7_on {w W W' : World} {bs : Nat} {v0 v1 v2 v3 v4 v5 v6 : Value} (hb : Below W.heap.size W W') (h : W.cell? ⟨w.heap.size, 0, none⟩ = some v0 ∧ W.cell? ⟨w.heap.size, 1, none⟩ = some v1 ∧ W.cell? ⟨w.heap.size + 1, 0, none⟩ = some v2 ∧ W.cell? ⟨bs, 8, none⟩ = some v3 ∧ W.cell? ⟨bs, 9, none⟩ = some v4 ∧ W.cell? ⟨bs, 10, none⟩ = some v5 ∧ W.cell? ⟨bs, 11, none⟩ = some v6 ∧ Below w.heap.size w W) :
    W'.cell? ⟨w.heap.size, 0, none⟩ = some v0 ∧ W'.cell? ⟨w.heap.size, 1, none⟩ = some v1 ∧ W'.cell? ⟨w.heap.size + 1, 0, none⟩ = some v2 ∧ W'.cell? ⟨bs, 8, none⟩ = some v3 ∧ W'.cell? ⟨bs, 9, none⟩ = some v4 ∧ W'.cell? ⟨bs, 10, none⟩ = some v5 ∧ W'.cell? ⟨bs, 11, none⟩ = some v6 ∧ Below w.heap.size w W' := ⟨cell_on h.1 hb, cell_on h.2.1 hb, cell_on h.2.2.1 hb, cell_on h.2.2.2.1 hb, cell_on h.2.2.2.2.1 hb, cell_on h.2.2.2.2.2.1 hb, cell_on h.2.2.2.2.2.2.1 hb, bel_on (Nat.le_refl _) h.2.2.2.2.2.2.2 hb⟩
theorem e7_set {w W : World} {bs k i : Nat} {u : Value} {v0 v1 v2 v3 v4 v5 v6 : Value} (hk : w.heap.size + 3 ≤ k) (hb : bs ≠ k) (h : W.cell? ⟨w.heap.size, 0, none⟩ = some v0 ∧ W.cell? ⟨w.heap.size, 1, none⟩ = some v1 ∧ W.cell? ⟨w.heap.size + 1, 0, none⟩ = some v2 ∧ W.cell? ⟨bs, 8, none⟩ = some v3 ∧ W.cell? ⟨bs, 9, none⟩ = some v4 ∧ W.cell? ⟨bs, 10, none⟩ = some v5 ∧ W.cell? ⟨bs, 11, none⟩ = some v6 ∧ Below w.heap.size w W) :
    (W.setCell ⟨k, i, none⟩ u).cell? ⟨w.heap.size, 0, none⟩ = some v0 ∧ (W.setCell ⟨k, i, none⟩ u).cell? ⟨w.heap.size, 1, none⟩ = some v1 ∧ (W.setCell ⟨k, i, none⟩ u).cell? ⟨w.heap.size + 1, 0, none⟩ = some v2 ∧ (W.setCell ⟨k, i, none⟩ u).cell? ⟨bs, 8, none⟩ = some v3 ∧ (W.setCell ⟨k, i, none⟩ u).cell? ⟨bs, 9, none⟩ = some v4 ∧ (W.setCell ⟨k, i, none⟩ u).cell? ⟨bs, 10, none⟩ = some v5 ∧ (W.setCell ⟨k, i, none⟩ u).cell? ⟨bs, 11, none⟩ = some v6 ∧ Below w.heap.size w (W.setCell ⟨k, i, none⟩ u) := ⟨cell_set h.1 (by omega), cell_set h.2.1 (by omega), cell_set h.2.2.1 (by omega), cell_set h.2.2.2.1 hb, cell_set h.2.2.2.2.1 hb, cell_set h.2.2.2.2.2.1 hb, cell_set h.2.2.2.2.2.2.1 hb, h.2.2.2.2.2.2.2.setCell (by show w.heap.size ≤ k; omega) _⟩
theorem e7_bel {w W : World} {bs : Nat} {v0 v1 v2 v3 v4 v5 v6 : Value} (h : W.cell? ⟨w.heap.size, 0, none⟩ = some v0 ∧ W.cell? ⟨w.heap.size, 1, none⟩ = some v1 ∧ W.cell? ⟨w.heap.size + 1, 0, none⟩ = some v2 ∧ W.cell? ⟨bs, 8, none⟩ = some v3 ∧ W.cell? ⟨bs, 9, none⟩ = some v4 ∧ W.cell? ⟨bs, 10, none⟩ = some v5 ∧ W.cell? ⟨bs, 11, none⟩ = some v6 ∧ Below w.heap.size w W) : Below w.heap.size w W := h.2.2.2.2.2.2.2
theorem b7_set {W : World} {bs k i : Nat} {u : Value} {v0 v1 v2 v3 v4 v5 v6 : Value} (hb : bs ≠ k) (h : W.cell? ⟨bs, 5, none⟩ = some v0 ∧ W.cell? ⟨bs, 6, none⟩ = some v1 ∧ W.cell? ⟨bs, 7, none⟩ = some v2 ∧ W.cell? ⟨bs, 8, none⟩ = some v3 ∧ W.cell? ⟨bs, 9, none⟩ = some v4 ∧ W.cell? ⟨bs, 10, none⟩ = some v5 ∧ W.cell? ⟨bs, 11, none⟩ = some v6) :
    (W.setCell ⟨k, i, none⟩ u).cell? ⟨bs, 5, none⟩ = some v0 ∧ (W.setCell ⟨k, i, none⟩ u).cell? ⟨bs, 6, none⟩ = some v1 ∧ (W.setCell ⟨k, i, none⟩ u).cell? ⟨bs, 7, none⟩ = some v2 ∧ (W.setCell ⟨k, i, none⟩ u).cell? ⟨bs, 8, none⟩ = some v3 ∧ (W.setCell ⟨k, i, none⟩ u).cell? ⟨bs, 9, none⟩ = some v4 ∧ (W.setCell ⟨k, i, none⟩ u).cell? ⟨bs, 10, none⟩ = some v5 ∧ (W.setCell ⟨k, i, none⟩ u).cell? ⟨bs, 11, none⟩ = some v6 := ⟨cell_set h.1 hb, cell_set h.2.1 hb, cell_set h.2.2.1 hb, cell_set h.2.2.2.1 hb, cell_set h.2.2.2.2.1 hb, cell_set h.2.2.2.2.2.1 hb, cell_set h.2.2.2.2.2.2 hb⟩
theorem b7_drew {W : World} {bs : Nat} {v0 v1 v2 v3 v4 v5 v6 : Value} (h : W.cell? ⟨bs, 5, none⟩ = some v0 ∧ W.cell? ⟨bs, 6, none⟩ = some v1 ∧ W.cell? ⟨bs, 7, none⟩ = some v2 ∧ W.cell? ⟨bs, 8, none⟩ = some v3 ∧ W.cell? ⟨bs, 9, none⟩ = some v4 ∧ W.cell? ⟨bs, 10, none⟩ = some v5 ∧ W.cell? ⟨bs, 11, none⟩ = some v6) : W.drew.cell? ⟨bs, 5, none⟩ = some v0 ∧ W.drew.cell? ⟨bs, 6, none⟩ = some v1 ∧ W.drew.cell? ⟨bs, 7, none⟩ = some v2 ∧ W.drew.cell? ⟨bs, 8, none⟩ = some v3 ∧ W.drew.cell? ⟨bs, 9, none⟩ = some v4 ∧ W.drew.cell? ⟨bs, 10, none⟩ = some v5 ∧ W.drew.cell? ⟨bs, 11, none⟩ = some v6 := h
theorem Six.set {w W : World} {pc : Int} {sv av : Value} {f s : Int} {k i : Nat} {u : Value} (h : Six w W pc sv av f s) (hk : w.heap.size + 6 ≤ k) : Six w (W.setCell ⟨k, i, none⟩ u) pc sv av f s := h.grown (grown_put _ _ _ _) hk
theorem cpuR_succ {pc : Int} {st : List Int} (h : CpuR pc st) (hp : pc < 60) : CpuR (pc + 1) st := ⟨h.1, ⟨by have := h.2.1.1; omega, by omega⟩, h.2.2⟩
theorem codeR_at {rl : List (Int × Int)} {j : Nat} {op arg : Int} (h : I.CodeR rl) (hx : rl[j]? = some (op, arg)) : (0 ≤ op ∧ op ≤ 255) ∧ (0 ≤ arg ∧ arg ≤ 255) := by
  obtain ⟨hj, e⟩ := List.getElem?_eq_some_iff.1 hx
  have := h.2 j hj
  rw [e] at this
  exact this

set_option maxRecDepth 100000 in
set_option maxHeartbeats 3000000 in
theorem stepY (qs : Option Addr) (pc : Int) (st : List Int) (n cp : Nat) (qc : Option Addr) (rl : List (Int × Int)) (nc cc j : Nat) (qa : Option Addr) (ce : List Int) (m ca : Nat) (f s t op arg : Int) (R : Res) (N : Nat) (hl : st.length = n) (hlc : rl.length = nc) (hla : ce.length = m) (hm : m ≤ 1048576) (hc : CpuR pc st) (hk : I.CodeR rl) (hj : pc = j) (hjl : j < nc) (hx : rl[j]? = some (op, arg)) (hR : stepV pc st ce f s t op arg = R) (hN : R.st.length = N) (hT : R.tr ≠ 0 → R = trapR pc st ce R.tr) (w : World) (hr : Rd w qs st) (hrc : I.RdR w qc rl) (hra : Rd w qa ce) :
    Calls Try.prog 60 #[.agg #[.int .i64 pc, .slice qs n cp], .slice qc nc cc, .agg #[.slice qa m ca], .agg #[.int .i64 f, .int .i64 s], .int .i64 t] w (StepPost w m R N) := by
  have HX : Hid (Six w _ pc (.slice qs n cp) (.slice qa m ca) f s) := six_is w pc (.slice qs n cp) (.slice qa m ca) f s
  have HR : Hid (Rd w qs st) := hr
  have HRC : Hid (I.RdR w qc rl) := hrc
  have HRA : Hid (Rd w qa ce) := hra
  have HL : Hid (st.length = n) := hl
  have HLC : Hid (rl.length = nc) := hlc
  have HLA : Hid (ce.length = m) := hla
  have HC : Hid (CpuR pc st) := hc
  have HK : Hid (I.CodeR rl) := hk
  have HJ : Hid (pc = (j : Int)) := hj
  have HI : Hid (rl[j]? = some (op, arg)) := hx
  have HV : Hid (stepV pc st ce f s t op arg = R) := hR
  have HN : Hid (R.st.length = N) := hN
  have HT : Hid (R.tr ≠ 0 → R = trapR pc st ce R.tr) := hT
  have hn : n ≤ 1048576 := by have := hc.1; omega
  have HNC : Hid (nc ≤ 60) := by rw [← hlc]; exact hk.1
  have hp0 : 0 ≤ pc ∧ pc < 60 := by have := HNC.out; omega
  clear hr hrc hra hl hlc hla hc hk hj hx hR hN hT
  go_enter Try.func60, Try.ntmps60
  go_wp2_with fail
  refine (instrAtY qs pc st n cp qc rl nc cc j op arg HL.out (by omega) HLC.out (by have := HNC.out; omega) HC.out HK.out HJ.out hjl HI.out _ (HR.out.keep HX.out.bel (Nat.le_refl _)) (HRC.out.keep HX.out.bel (Nat.le_refl _))).mono ?_
  rintro e w1 ⟨rfl, hb1⟩
  have HX1 : Hid (Six w (w1.alloc (.cells #[.int .i64 op, .int .i64 arg] 51)) pc (.slice qs n cp) (.slice qa m ca) f s) := (HX.out.on hb1).on ((Below.refl _ _).alloc (Nat.le_refl _) _)
  have HI1 : Hid ((w1.alloc (.cells #[.int .i64 op, .int .i64 arg] 51)).heap[w1.heap.size]? = some (.cells #[.int .i64 op, .int .i64 arg] 51)) := heap_new w1 _
  clear hb1 HX
  have hlt := HX1.out.lt
  go_wp2_with fail
  generalize hW : w1.alloc (.cells #[.int .i64 op, .int .i64 arg] 51) = W1 at *
  clear hW
  have HR1 : Hid (Rd W1 qs st) := HR.out.keep HX1.out.bel (Nat.le_refl _)
  have HRA1 : Hid (Rd W1 qa ce) := HRA.out.keep HX1.out.bel (Nat.le_refl _)
  have HQ : Hid (W1.cell? ⟨w1.heap.size, 0, none⟩ = some (.int .i64 op) ∧ W1.cell? ⟨w1.heap.size, 1, none⟩ = some (.int .i64 arg) ∧ W1.cell? ⟨w.heap.size + 2, 0, none⟩ = some (.int .i64 f) ∧ W1.cell? ⟨w.heap.size + 2, 1, none⟩ = some (.int .i64 s) ∧ W1.cell? ⟨w.heap.size, 0, none⟩ = some (.int .i64 pc) ∧ W1.cell? ⟨w.heap.size, 1, none⟩ = some (.slice qs n cp) ∧ W1.cell? ⟨w.heap.size + 1, 0, none⟩ = some (.slice qa m ca)) := ⟨(row2_cells HI1.out).1, (row2_cells HI1.out).2.1, (row2_cells HX1.out.2.2.1).1, (row2_cells HX1.out.2.2.1).2.1, (row2_cells HX1.out.1).1, (row2_cells HX1.out.1).2.1, (row1_cells HX1.out.2.1).1⟩
  go_cut [15] (fun pz wc => ∃ (bs g ga : Nat), pz = .pointer (some ⟨bs, 0, none⟩) ∧ Hid (Begun W1 wc bs g ga op arg t f s pc n m st ce))
  case first =>
    go_region_held3 (fun w' => w'.cell? ⟨w1.heap.size, 0, none⟩ = some (.int .i64 op) ∧ w'.cell? ⟨w1.heap.size, 1, none⟩ = some (.int .i64 arg) ∧ w'.cell? ⟨w.heap.size + 2, 0, none⟩ = some (.int .i64 f) ∧ w'.cell? ⟨w.heap.size + 2, 1, none⟩ = some (.int .i64 s) ∧ w'.cell? ⟨w.heap.size, 0, none⟩ = some (.int .i64 pc) ∧ w'.cell? ⟨w.heap.size, 1, none⟩ = some (.slice qs n cp) ∧ w'.cell? ⟨w.heap.size + 1, 0, none⟩ = some (.slice qa m ca) ∧ Below W1.heap.size W1 w') (first | (with_reducible exact s7_keep HQ.out (below_set14 HBz.out (Nat.le_refl _))) | (with_reducible exact s7_keep HQ.out (below_set14 HBz.out ssA)) | (with_reducible exact s7_keep HQ.out (Below.refl _ _).drew) | (with_reducible exact s7_keep HQ.out HBz.out) | (with_reducible exact s7_keep HQ.out (s7_on (by assumption) (by assumption))) | (with_reducible exact s7_keep HQ.out (s7_alloc (by assumption) _)) | (with_reducible exact s7_keep HQ.out (HBz.out.alloc HBz.out.size _))) (first | (go_at_call 70; refine (copyC' qs pc st n cp HL.out hn _ ?_).mono ?_; (with_reducible exact HR1.out.on (s7_bel (by assumption))); rintro e wA ⟨gA, rfl, hgA, hownA, hbA⟩; (try simp at hgA); have ssA := hbA.size; (try simp at ssA); have HOA : Hid (OwnN wA W1.heap.size gA n n st) := hownA.mono (by first | exact Nat.le_refl _ | simp); (first | (have zA : Hid (StepIs wA W1.heap.size 0 0 0 0 0 0 (.slice none 0 0) (.slice none 0 0) 0 0 0 0 0 0) := hid (by with_reducible exact step_new (undrew hbA))) | skip)) | (go_at_call 71; refine (copyA' qa ce m ca HLA.out hm _ ?_).mono ?_; (with_reducible exact HRA1.out.on (s7_bel (by assumption))); rintro e wB ⟨gB, rfl, hgB, hownB, hbB⟩; (try simp at hgB); have ssB := hbB.size; (try simp at ssB); have HBz : Hid (Below W1.heap.size W1 wB) := hid (by with_reducible exact s7_on hbB (by assumption)); have lA := hownA.lt; have lB := hownB.lt; have HOB : Hid (OwnN wB W1.heap.size gB m m ce) := hownB.mono (by first | omega | (simp <;> omega)); have HOC : Hid (OwnN wB W1.heap.size gA n n st) := hid (by first | (with_reducible exact HOA.out.on hbB) | (with_reducible exact (HOA.out.alloc _).on hbB)); (first | (have zB : Hid (StepIs wB W1.heap.size 0 0 0 0 0 0 (.slice none 0 0) (.slice none 0 0) 0 0 0 0 0 0) := hid (by with_reducible exact zA.out.on hbB); have kz := zB.out.facts) | (have zB : Hid (StepIs wB wA.heap.size 0 0 0 0 0 0 (.slice none 0 0) (.slice none 0 0) 0 0 0 0 0 0) := hid (by with_reducible exact step_new hbB); have kz := zB.out.facts) | skip)))
    all_goals (try go_wp2_with fail)
    all_goals go_meet
    all_goals refine ⟨_, gA, gB, rfl, hid ?_⟩
    all_goals first | (with_reducible refine begun_alloc HBz.out HOC.out HOB.out ?_) | (with_reducible refine begun_set HBz.out zB.out HOC.out HOB.out ?_ ?_ ?_ ?_)
    all_goals omega
  case rest =>
  rename World => wC
  obtain ⟨bs, g, ga, rfl, HBG⟩ := hcut
  have HX2 : Hid (Six w wC pc (.slice qs n cp) (.slice qa m ca) f s) := HX1.out.on HBG.out.2.2.2.2.2.2.2
  have HLB : Hid (W1.heap.size ≤ bs ∧ w.heap.size + 6 ≤ W1.heap.size ∧ W1.heap.size ≤ wC.heap.size) := ⟨HBG.out.2.2.2.1, hlt, HBG.out.2.2.2.2.2.2.2.size⟩
  have HX3 : Hid (Six w (wC.setCell ⟨bs, 5, none⟩ (.int .i64 (pc + 1))) pc (.slice qs n cp) (.slice qa m ca) f s) := HX2.out.set (by have := HLB.out; omega)
  have HS3 : Hid (StepIs _ _ _ _ _ _ _ _ _ _ _ _ _ _ _ _) := HBG.out.1.setPc (pc + 1)
  have HO3 : Hid (OwnN (wC.setCell ⟨bs, 5, none⟩ (.int .i64 (pc + 1))) W1.heap.size g n n st) := HBG.out.2.1.set HBG.out.2.2.2.2.2.1
  have HOA3 : Hid (OwnN (wC.setCell ⟨bs, 5, none⟩ (.int .i64 (pc + 1))) W1.heap.size ga m m ce) := HBG.out.2.2.1.set HBG.out.2.2.2.2.2.2.1
  have HNE : Hid (g ≠ bs ∧ ga ≠ bs ∧ g ≠ ga) := ⟨HBG.out.2.2.2.2.2.1, HBG.out.2.2.2.2.2.2.1, HBG.out.2.2.2.2.1⟩
  have kf := HBG.out.1.facts
  clear HQ HX1 HI1 HBG HX2 HR1 HRA1
  go_wp2_with fail
  clear kf
  refine (runI _ bs g n n ga m m W1.heap.size st ce op arg t f s pc HS3.out HO3.out HOA3.out HNE.out.1 HNE.out.2.1 HNE.out.2.2 hm (cpuR_succ HC.out hp0.2) (by have := HLB.out; simp; omega) (codeR_at HK.out HI.out).1 (codeR_at HK.out HI.out).2).mono ?_
  rintro e w3 ⟨rfl, hg3, hpost⟩
  rw [HV.out] at hpost
  have HX4 : Hid (Six w w3 pc (.slice qs n cp) (.slice qa m ca) f s) := HX3.out.grown hg3 (by have := HLB.out; omega)
  clear hg3 HS3 HO3 HOA3 HX3
  have k3 : w.heap.size + 3 ≤ w.heap.size + 1 + 1 + 1 := by omega
  have k4 : w.heap.size + 3 ≤ w.heap.size + 1 + 1 + 1 + 1 := by omega
  have k5 : w.heap.size + 3 ≤ w.heap.size + 1 + 1 + 1 + 1 + 1 := by omega
  have nb3 : bs ≠ w.heap.size + 1 + 1 + 1 := by have := HLB.out; omega
  have nb4 : bs ≠ w.heap.size + 1 + 1 + 1 + 1 := by have := HLB.out; omega
  have nb5 : bs ≠ w.heap.size + 1 + 1 + 1 + 1 + 1 := by have := HLB.out; omega
  rcases hpost with ⟨htr, pc', sv', av', a', b', hst⟩ | ⟨htr, n2, g2, c2, ga2, ca2, a', b', hn2, hst, ho2, hoa2, hne, hg2, hga2⟩
  · have kf := hst.facts
    have HTR : Hid (R.tr ≠ 0) := htr
    have HQ : Hid (w3.drew.cell? ⟨w.heap.size, 0, none⟩ = some (.int .i64 pc) ∧ w3.drew.cell? ⟨w.heap.size, 1, none⟩ = some (.slice qs n cp) ∧ w3.drew.cell? ⟨w.heap.size + 1, 0, none⟩ = some (.slice qa m ca) ∧ w3.drew.cell? ⟨bs, 8, none⟩ = some (.int .i64 0) ∧ w3.drew.cell? ⟨bs, 9, none⟩ = some (.int .i64 0) ∧ w3.drew.cell? ⟨bs, 10, none⟩ = some (.int .i64 0) ∧ w3.drew.cell? ⟨bs, 11, none⟩ = some (.int .i64 R.tr) ∧ Below w.heap.size w w3.drew) := ⟨(row2_cells HX4.out.1).1, (row2_cells HX4.out.1).2.1, (row1_cells HX4.out.2.1).1, kf.2.2.2.2.2.2.2.2.1, kf.2.2.2.2.2.2.2.2.2.1, kf.2.2.2.2.2.2.2.2.2.2.1, kf.2.2.2.2.2.2.2.2.2.2.2.1, HX4.out.bel.drew⟩
    have hlt4 := HX4.out.lt
    clear hst
    go_wp2_with fail
    clear kf
    go_region_held3 (fun w' => w'.cell? ⟨w.heap.size, 0, none⟩ = some (.int .i64 pc) ∧ w'.cell? ⟨w.heap.size, 1, none⟩ = some (.slice qs n cp) ∧ w'.cell? ⟨w.heap.size + 1, 0, none⟩ = some (.slice qa m ca) ∧ w'.cell? ⟨bs, 8, none⟩ = some (.int .i64 0) ∧ w'.cell? ⟨bs, 9, none⟩ = some (.int .i64 0) ∧ w'.cell? ⟨bs, 10, none⟩ = some (.int .i64 0) ∧ w'.cell? ⟨bs, 11, none⟩ = some (.int .i64 R.tr) ∧ Below w.heap.size w w') (first | (with_reducible exact HQ.out) | (with_reducible exact HQz.out) | (with_reducible exact e7_set k3 nb3 (e7_set k3 nb3 (by assumption))) | (with_reducible exact e7_set k4 nb4 (by assumption)) | (with_reducible exact e7_set k5 nb5 (e7_set k5 nb5 (e7_set k5 nb5 (e7_set k5 nb5 (by assumption))))) | (with_reducible exact e7_on (by assumption) (by assumption))) (first | (go_at_call 70; refine (copyC' qs pc st n cp HL.out hn _ ?_).mono ?_; (with_reducible exact HR.out.keep (e7_bel (by assumption)) (Nat.le_refl _)); rintro e wA ⟨gA, rfl, hgA, hownA, hbA⟩; have HXA : Hid (Six w wA pc (.slice qs n cp) (.slice qa m ca) f s) := HX4.out.on (undrew hbA)) | (go_at_call 71; refine (copyA' qa ce m ca HLA.out hm _ ?_).mono ?_; (with_reducible exact HRA.out.keep (e7_bel (by assumption)) (Nat.le_refl _)); rintro e wB ⟨gB, rfl, hgB, hownB, hbB⟩; have HXB : Hid (Six w wB pc (.slice qs n cp) (.slice qa m ca) f s) := HXA.out.on hbB; have kr := HXB.out.outs; have HOA := hownA.on hbB; have HQz : Hid (_ ∧ _ ∧ _ ∧ _) := hid (by with_reducible exact e7_on hbB (by assumption))))
    have HNN : Hid (w3.heap.size ≤ gA ∧ gA < wA.heap.size ∧ wA.heap.size ≤ gB ∧ w.heap.size + 6 ≤ w3.heap.size) := ⟨hgA, hownA.lt, hgB, HX4.out.lt⟩
    have HO1 : Hid (OwnN wB w.heap.size gA n n st) := HOA.mono (by have := HX4.out.lt; show w.heap.size ≤ w3.heap.size; omega)
    have HO2 : Hid (OwnN wB w.heap.size gB m m ce) := hownB.mono (by have := HNN.out; omega)
    have HBW : Hid (Below w.heap.size w wB) := HXB.out.bel
    rename_i HH
    clear HH hownA hownB HOA hgA hgB hbA hbB HQz HQ HX4
    go_wp2
    refine bodyPost_ret (v := .tuple #[.agg #[.int .i64 pc, .slice (some ⟨gA, 0, none⟩) n n], .agg #[.slice (some ⟨gB, 0, none⟩) m m], .agg #[.int .i64 0, .int .i64 0, .int .i64 0, .int .i64 R.tr]]) (by simp [results, Try.results60, go_sem, kr]) rfl ?_
    have hRR := HT.out HTR.out
    have hNn : N = n := by have h1 := HN.out; have h2 := HL.out; rw [hRR] at h1; simp [trapR] at h1; omega
    refine ⟨gA, n, gB, m, ?_, ?_, ?_, ?_, ?_⟩
    · rw [hNn, show R.pc = pc by rw [hRR]; rfl, show R.k = 0 by rw [hRR]; rfl, show R.po = 0 by rw [hRR]; rfl, show R.nu = 0 by rw [hRR]; rfl]
    · rw [hNn, show R.st = st by rw [hRR]; rfl]
      exact HO1.out.set7 (by have := HNN.out; omega) (by have := HNN.out; omega) (by have := HNN.out; omega)
    · rw [show R.ce = ce by rw [hRR]; rfl]
      exact HO2.out.set7 (by have := HNN.out; omega) (by have := HNN.out; omega) (by have := HNN.out; omega)
    · have := HNN.out; omega
    · exact below_set7 HBW.out (by omega) (by omega) (by omega)
  · have kf := hst.facts
    obtain rfl : n2 = N := by rw [← hn2]; exact HN.out
    have HTR : Hid (R.tr = 0) := htr
    have HQ : Hid (w3.cell? ⟨bs, 5, none⟩ = some (.int .i64 R.pc) ∧ w3.cell? ⟨bs, 6, none⟩ = some (.slice (some ⟨g2, 0, none⟩) n2 c2) ∧ w3.cell? ⟨bs, 7, none⟩ = some (.slice (some ⟨ga2, 0, none⟩) m ca2) ∧ w3.cell? ⟨bs, 8, none⟩ = some (.int .i64 R.k) ∧ w3.cell? ⟨bs, 9, none⟩ = some (.int .i64 R.po) ∧ w3.cell? ⟨bs, 10, none⟩ = some (.int .i64 R.nu) ∧ w3.cell? ⟨bs, 11, none⟩ = some (.int .i64 0)) := ⟨kf.2.2.2.2.2.1, kf.2.2.2.2.2.2.1, kf.2.2.2.2.2.2.2.1, kf.2.2.2.2.2.2.2.2.1, kf.2.2.2.2.2.2.2.2.2.1, kf.2.2.2.2.2.2.2.2.2.2.1, kf.2.2.2.2.2.2.2.2.2.2.2.1⟩
    have HO1 : Hid (OwnN w3 W1.heap.size g2 n2 c2 R.st) := ho2
    have HO2 : Hid (OwnN w3 W1.heap.size ga2 m ca2 R.ce) := hoa2
    have HNN : Hid (g2 ≠ ga2 ∧ g2 ≠ bs ∧ ga2 ≠ bs ∧ W1.heap.size ≤ g2 ∧ W1.heap.size ≤ ga2) := ⟨hne, hg2, hga2, ho2.ge, hoa2.ge⟩
    have kr := HX4.out.outs
    clear hst ho2 hoa2 hne hg2 hga2 htr hn2
    go_wp2_with fail
    clear kf
    go_region_held3 (fun w' => w'.cell? ⟨bs, 5, none⟩ = some (.int .i64 R.pc) ∧ w'.cell? ⟨bs, 6, none⟩ = some (.slice (some ⟨g2, 0, none⟩) n2 c2) ∧ w'.cell? ⟨bs, 7, none⟩ = some (.slice (some ⟨ga2, 0, none⟩) m ca2) ∧ w'.cell? ⟨bs, 8, none⟩ = some (.int .i64 R.k) ∧ w'.cell? ⟨bs, 9, none⟩ = some (.int .i64 R.po) ∧ w'.cell? ⟨bs, 10, none⟩ = some (.int .i64 R.nu) ∧ w'.cell? ⟨bs, 11, none⟩ = some (.int .i64 0)) (first | (with_reducible exact b7_drew HQ.out) | (with_reducible exact b7_drew (b7_set nb3 (b7_set nb3 HQ.out))) | (with_reducible exact b7_drew (b7_set nb4 (b7_set nb3 (b7_set nb3 HQ.out)))) | (with_reducible exact b7_drew (b7_set nb5 (b7_set nb5 (b7_set nb5 (b7_set nb5 (b7_set nb4 (b7_set nb3 (b7_set nb3 HQ.out))))))))) (fail)
    rename_i HH
    clear HH HQ
    go_wp2
    refine bodyPost_ret (v := .tuple #[.agg #[.int .i64 R.pc, .slice (some ⟨g2, 0, none⟩) n2 c2], .agg #[.slice (some ⟨ga2, 0, none⟩) m ca2], .agg #[.int .i64 R.k, .int .i64 R.po, .int .i64 R.nu, .int .i64 0]]) (by simp [results, Try.results60, go_sem, kr]) rfl ?_
    refine ⟨g2, c2, ga2, ca2, ?_, ?_, ?_, HNN.out.1, ?_⟩
    · rw [HTR.out]
    · refine OwnN.drew ((HO1.out.mono (by have := HLB.out; omega)).set7 (by have := HNN.out; have := HLB.out; omega) (by have := HNN.out; have := HLB.out; omega) (by have := HNN.out; have := HLB.out; omega))
    · refine OwnN.drew ((HO2.out.mono (by have := HLB.out; omega)).set7 (by have := HNN.out; have := HLB.out; omega) (by have := HNN.out; have := HLB.out; omega) (by have := HNN.out; have := HLB.out; omega))
    · exact (below_set7 HX4.out.bel (by omega) (by omega) (by omega)).drew
end Go.Proofs.Ythnocibkgpofnaa
