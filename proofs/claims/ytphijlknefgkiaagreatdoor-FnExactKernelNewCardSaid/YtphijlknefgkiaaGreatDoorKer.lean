/-
  A kernel: where its lists lie, what they hold.
-/
import Derived.Test.YtphijlknefgkiaaGreatDoorKLin
import Derived.Test.YtphijlknefgkiaaGreatDoorSet11
import Derived.Test.YtphijlknefgkiaaGreatDoorSetO11
namespace Go.Proofs.YtphijlknefgkiaaGreatDoor
open Go.ChangeShapes Go.WideShapes Go.ChangeAt Go.RowKit Go.PlainAid
set_option linter.unusedVariables false

theorem box12_cells {w : World} {k : Nat} {t : TypeId} {x0 x1 x2 x3 x4 x5 x6 x7 x8 x9 x10 x11 : Value} (h : w.heap[k]? = some (.cells #[x0, x1, x2, x3, x4, x5, x6, x7, x8, x9, x10, x11] t)) :
    (w.cell? ⟨k, 0, none⟩ = some x0 ∧ w.cell? ⟨k, 1, none⟩ = some x1 ∧ w.cell? ⟨k, 2, none⟩ = some x2 ∧ w.cell? ⟨k, 3, none⟩ = some x3 ∧ w.cell? ⟨k, 4, none⟩ = some x4 ∧ w.cell? ⟨k, 5, none⟩ = some x5 ∧ w.cell? ⟨k, 6, none⟩ = some x6 ∧ w.cell? ⟨k, 7, none⟩ = some x7 ∧ w.cell? ⟨k, 8, none⟩ = some x8 ∧ w.cell? ⟨k, 9, none⟩ = some x9 ∧ w.cell? ⟨k, 10, none⟩ = some x10 ∧ w.cell? ⟨k, 11, none⟩ = some x11) ∧ w.frozen? ⟨k, 0, none⟩ = false ∧ w.frozen? ⟨k, 1, none⟩ = false ∧ w.frozen? ⟨k, 2, none⟩ = false ∧ w.frozen? ⟨k, 3, none⟩ = false ∧ w.frozen? ⟨k, 4, none⟩ = false ∧ w.frozen? ⟨k, 5, none⟩ = false ∧ w.frozen? ⟨k, 6, none⟩ = false ∧ w.frozen? ⟨k, 7, none⟩ = false ∧ w.frozen? ⟨k, 8, none⟩ = false ∧ w.frozen? ⟨k, 9, none⟩ = false ∧ w.frozen? ⟨k, 10, none⟩ = false ∧ w.frozen? ⟨k, 11, none⟩ = false := by
  refine ⟨⟨?_, ?_, ?_, ?_, ?_, ?_, ?_, ?_, ?_, ?_, ?_, ?_⟩, ?_, ?_, ?_, ?_, ?_, ?_, ?_, ?_, ?_, ?_, ?_, ?_⟩ <;> simp [World.cell?, World.frozen?, h]
/-- where the lists of a kernel lie -/
structure KH where
  s : SH
  qA : Option Addr
  cA : Nat
  qP : Option Addr
  cP : Nat
  qL : Option Addr
  cL : Nat
  qO : Option Addr
  cO : Nat
  qE : Option Addr
  cE : Nat
/-- what they hold -/
structure KX where
  X : SX
  A : List Int
  P : List PX
  L : List MsgL
  O : List Int
  tu : Int
  sp : Bool
  E : List Ent
def KerV (k : KH) (K : KX) : Value := .agg #[.slice k.s.q0 k.s.n0 k.s.c0, .slice k.s.q1 k.s.n1 k.s.c1, .slice k.s.q2 k.s.n2 k.s.c2, .slice k.s.q3 k.s.n3 k.s.c3, .slice k.s.q4 k.s.n4 k.s.c4, .slice k.qA K.A.length k.cA, .slice k.qP K.P.length k.cP, .slice k.qL K.L.length k.cL, .slice k.qO K.O.length k.cO, .int .i64 K.tu, .bool K.sp, .slice k.qE K.E.length k.cE]
structure RdK (w : World) (k : KH) (K : KX) : Prop where
  x : RdX w k.s K.X
  a : Rd w k.qA K.A
  ca : K.A.length ≤ k.cA
  p : RdP w k.qP K.P
  l : RdL w k.qL K.L
  o : Rd w k.qO K.O
  co : K.O.length ≤ k.cO
  e : RdE w k.qE K.E
theorem RdK.keep {w w' : World} {k : KH} {K : KX} {B : Nat} (h : RdK w k K) (hb : Below B w w') (hB : w.heap.size ≤ B) : RdK w' k K :=
  ⟨⟨h.x.l0, h.x.r0.keep hb hB, h.x.l1, h.x.r1.keep hb hB, h.x.l2, h.x.r2.keep hb hB, h.x.l3, h.x.r3.keep hb hB, h.x.l4, h.x.r4.keep hb hB⟩, h.a.keep hb hB, h.ca, h.p.keep hb hB, h.l.keep hb hB, h.o.keep hb hB, h.co, h.e.keep hb hB⟩
theorem RdK.on {w w' : World} {k : KH} {K : KX} (h : RdK w k K) (hb : Below w.heap.size w w') : RdK w' k K := h.keep hb (Nat.le_refl _)
structure LimK (k : KH) (K : KX) : Prop where
  x : LimX k.s K.X
  a : K.A.length ≤ 9223372036854775807
  p : K.P.length ≤ 9223372036854775807
  ps : ∀ j (h : j < K.P.length), K.P[j].sk.length ≤ 9223372036854775807
  l : K.L.length ≤ 9223372036854775807
  ls : ∀ j (h : j < K.L.length), K.L[j].length ≤ 9223372036854775807
  o : K.O.length ≤ 9223372036854775807
  e : K.E.length ≤ 9223372036854775807
structure SmK (k : KH) (K : KX) : Prop where
  x : SmX k.s K.X
  a : K.A.length ≤ 1048576
  p : K.P.length ≤ 1048576
  ps : ∀ j (h : j < K.P.length), K.P[j].sk.length ≤ 1048576
  l : K.L.length ≤ 1048576
  ls : ∀ j (h : j < K.L.length), K.L[j].length ≤ 1048576
  o : K.O.length ≤ 1048576
  e : K.E.length ≤ 1048576
/-- what the numbers of a kernel are, as they came in -/
structure WfK (K : KX) : Prop where
  u : WfU K.X.U
  a : ∀ j (h : j < K.A.length), (Lit.int .i64 K.A[j]).wf = true
  p : ∀ j (h : j < K.P.length), wfP K.P[j]
  o : ∀ j (h : j < K.O.length), (Lit.int .i64 K.O[j]).wf = true
  t : (Lit.int .i64 K.tu).wf = true
structure IsKer (w : World) (k : KH) (K : KX) : Prop where
  rd : RdK w k K
  lim : LimK k K
  wf : WfK K
/-- a set-up that was made anew, from block lo on -/
structure RwX (w : World) (lo : Nat) (s : SH) (X : SX) : Prop where
  ex : ∃ g0 g1 g2 g3 g4, s = ⟨some ⟨g0, 0, none⟩, X.R.length, X.R.length, some ⟨g1, 0, none⟩, X.W.length, X.W.length, some ⟨g2, 0, none⟩, X.O.length, X.O.length, some ⟨g3, 0, none⟩, X.U.length, X.U.length, some ⟨g4, 0, none⟩, X.S.length, X.S.length⟩ ∧ (lo ≤ g0 ∧ lo ≤ g1 ∧ lo ≤ g2 ∧ lo ≤ g3 ∧ lo ≤ g4) ∧ R.RowR w g0 X.R ∧ RowR w g1 X.W ∧ RowO w g2 X.O ∧ RowU w g3 X.U ∧ S.RowS w g4 X.S
theorem RwX.agree {w w' : World} {lo : Nat} {s : SH} {X : SX} (h : RwX w lo s X) (ha : Agr lo w w') : RwX w' lo s X := by
  obtain ⟨g0, g1, g2, g3, g4, e, ⟨l0, l1, l2, l3, l4⟩, r0, r1, r2, r3, r4⟩ := h.ex
  exact ⟨g0, g1, g2, g3, g4, e, ⟨l0, l1, l2, l3, l4⟩, agr_row ha l0 r0, agr_row ha l1 r1, agr_row ha l2 r2, agr_row ha l3 r3, agr_row ha l4 r4⟩
theorem RwX.less {w : World} {lo lo' : Nat} {s : SH} {X : SX} (h : RwX w lo s X) (hl : lo' ≤ lo) : RwX w lo' s X := by
  obtain ⟨g0, g1, g2, g3, g4, e, ⟨l0, l1, l2, l3, l4⟩, r0, r1, r2, r3, r4⟩ := h.ex
  exact ⟨g0, g1, g2, g3, g4, e, ⟨by omega, by omega, by omega, by omega, by omega⟩, r0, r1, r2, r3, r4⟩
theorem RwX.rd {w : World} {lo : Nat} {s : SH} {X : SX} (h : RwX w lo s X) : RdX w s X := by
  obtain ⟨g0, g1, g2, g3, g4, rfl, _, r0, r1, r2, r3, r4⟩ := h.ex
  exact ⟨rfl, r0.rd, rfl, r1.rd, rfl, r2.rd, rfl, r3.rd, rfl, r4.rd⟩
theorem RwX.cap {w : World} {lo : Nat} {s : SH} {X : SX} (h : RwX w lo s X) : s.n0 ≤ s.c0 := by
  obtain ⟨g0, g1, g2, g3, g4, rfl, _⟩ := h.ex
  exact Nat.le_refl _
/-- a list of numbers, of entries, that was made anew -/
def RwI (w : World) (lo : Nat) (q : Option Addr) (l : List Int) : Prop := ∃ g, q = some ⟨g, 0, none⟩ ∧ lo ≤ g ∧ RowAt w g l
def RwE (w : World) (lo : Nat) (q : Option Addr) (l : List Ent) : Prop := ∃ g, q = some ⟨g, 0, none⟩ ∧ lo ≤ g ∧ RowE w g l
theorem RwI.agree {w w' : World} {lo : Nat} {q : Option Addr} {l : List Int} (h : RwI w lo q l) (ha : Agr lo w w') : RwI w' lo q l := by
  obtain ⟨g, e, hl, hr⟩ := h
  exact ⟨g, e, hl, agr_row ha hl hr⟩
theorem RwE.agree {w w' : World} {lo : Nat} {q : Option Addr} {l : List Ent} (h : RwE w lo q l) (ha : Agr lo w w') : RwE w' lo q l := by
  obtain ⟨g, e, hl, hr⟩ := h
  exact ⟨g, e, hl, agr_row ha hl hr⟩
theorem RwI.rd {w : World} {lo : Nat} {q : Option Addr} {l : List Int} (h : RwI w lo q l) : Rd w q l := by
  obtain ⟨g, rfl, hl, hr⟩ := h
  exact hr.rd
theorem RwE.rd {w : World} {lo : Nat} {q : Option Addr} {l : List Ent} (h : RwE w lo q l) : RdE w q l := by
  obtain ⟨g, rfl, hl, hr⟩ := h
  exact hr.rd
/-- a kernel that was made anew, from block lo on: caps are lengths -/
structure OwnK (w : World) (lo : Nat) (k : KH) (K : KX) : Prop where
  x : RwX w lo k.s K.X
  a : RwI w lo k.qA K.A
  ca : k.cA = K.A.length
  p : OwnP w lo k.qP K.P
  cp : k.cP = K.P.length
  l : OwnL w lo k.qL K.L
  cl : k.cL = K.L.length
  o : RwI w lo k.qO K.O
  co : k.cO = K.O.length
  e : RwE w lo k.qE K.E
  ce : k.cE = K.E.length
theorem OwnK.agree {w w' : World} {lo : Nat} {k : KH} {K : KX} (h : OwnK w lo k K) (ha : Agr lo w w') : OwnK w' lo k K :=
  ⟨h.x.agree ha, h.a.agree ha, h.ca, h.p.agree ha, h.cp, h.l.agree ha, h.cl, h.o.agree ha, h.co, h.e.agree ha, h.ce⟩
theorem RwI.less {w : World} {lo lo' : Nat} {q : Option Addr} {l : List Int} (h : RwI w lo q l) (hl : lo' ≤ lo) : RwI w lo' q l := by
  obtain ⟨g, e, h1, hr⟩ := h
  exact ⟨g, e, Nat.le_trans hl h1, hr⟩
theorem RwE.less {w : World} {lo lo' : Nat} {q : Option Addr} {l : List Ent} (h : RwE w lo q l) (hl : lo' ≤ lo) : RwE w lo' q l := by
  obtain ⟨g, e, h1, hr⟩ := h
  exact ⟨g, e, Nat.le_trans hl h1, hr⟩
theorem OwnK.less {w : World} {lo lo' : Nat} {k : KH} {K : KX} (h : OwnK w lo k K) (hl : lo' ≤ lo) : OwnK w lo' k K :=
  ⟨h.x.less hl, h.a.less hl, h.ca, h.p.less hl, h.cp, h.l.less hl, h.cl, h.o.less hl, h.co, h.e.less hl, h.ce⟩
theorem OwnK.on {w w' : World} {lo : Nat} {k : KH} {K : KX} (h : OwnK w lo k K) (hb : Below w.heap.size w w') : OwnK w' lo k K := h.agree (agr_below lo hb)
theorem OwnK.rd {w : World} {lo : Nat} {k : KH} {K : KX} (h : OwnK w lo k K) : RdK w k K :=
  ⟨h.x.rd, h.a.rd, by rw [h.ca]; exact Nat.le_refl _, h.p.rd, h.l.rd, h.o.rd, by rw [h.co]; exact Nat.le_refl _, h.e.rd⟩
theorem sm_ofX {w w' : World} {s s' : SH} {X : SX} (h : SmX s X) (hr : RdX w s X) (hr' : RdX w' s' X) : SmX s' X :=
  ⟨by rw [← hr'.l0, hr.l0]; exact h.n0, by rw [← hr'.l1, hr.l1]; exact h.n1, by rw [← hr'.l2, hr.l2]; exact h.n2, by rw [← hr'.l3, hr.l3]; exact h.n3, by rw [← hr'.l4, hr.l4]; exact h.n4, h.b⟩
theorem sm_ofK {w w' : World} {k k' : KH} {K : KX} (h : SmK k K) (hr : RdK w k K) (hr' : RdK w' k' K) : SmK k' K :=
  ⟨sm_ofX h.x hr.x hr'.x, h.a, h.p, h.ps, h.l, h.ls, h.o, h.e⟩
theorem cellsK_S : Tryz.prog.cellsOf 28 = 5 := by kernel_rfl
theorem cellsK_I : Tryz.prog.cellsOf 36 = 1 := by kernel_rfl
theorem cellsK_B : Tryz.prog.cellsOf 4 = 1 := by kernel_rfl
end Go.Proofs.YtphijlknefgkiaaGreatDoor
