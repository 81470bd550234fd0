/-
  A kernel: where its lists lie, what they hold.
-/
import Derived.Test.YtfdhcchakoldpaaKLin
import Derived.Test.YtfdhcchakoldpaaSet11
import Derived.Test.YtfdhcchakoldpaaSetO11
namespace Go.Proofs.Ytfdhcchakoldpaa
open Go.ChangeShapes Go.WideShapes Go.ChangeAt Go.RowKit Go.PlainAid
set_option linter.unusedVariables false

theorem szE11 (a : Option Addr) (n cap : Nat) (m : Int) (m0 : 0 ≤ m) (m1 : m ≤ 1048576) (hn : n ≤ 9223372036854775807) (w : World) : Calls Try.prog 63 #[.slice a n cap, .int .i64 m] w fun e w' => e = .returned (.int .i64 (if (n : Int) ≤ m then m - (n : Int) else -1)) ∧ w' = w := by
  have hw : IntKind.i64.wrap (m - (n : Int)) = m - (n : Int) := wrap_in (by omega) (by omega)
  by_cases h : (n : Int) ≤ m
  · rw [if_pos h]
    have h0 : ¬ m - (n : Int) < 0 := by omega
    go_enter Try.func63, Try.ntmps63
    go_wp2
    go_ret
    exact ⟨rfl, rfl⟩
  · rw [if_neg h]
    have h0 : m - (n : Int) < 0 := by omega
    go_enter Try.func63, Try.ntmps63
    go_wp2
    go_ret
    exact ⟨rfl, rfl⟩
theorem openE11_cells : Try.prog.cellsOf 224 = 5 := by kernel_rfl
set_option maxRecDepth 100000 in
theorem openE11 {H : Type} {enc : TypeId × Value → H} {W : World} {held : Bool} {v : Value} {x : DataW H × List MemPlace} {bs fuel : Nat}
    (hf : DataW.trod enc Try.prog W bs (fun _ => true) held fuel 84 [v] = some x) :
    ∃ a len cap, ∃ l : List (Int × Int × Int × Int × Int), v = .slice a len cap ∧ l.length = len ∧ len ≤ cap ∧ len ≤ 9223372036854775807 ∧ RdE W a l ∧ ∀ j (h : j < l.length), (Lit.int .i64 l[j].1).wf = true ∧ (Lit.int .i64 l[j].2.1).wf = true ∧ (Lit.int .i64 l[j].2.2.1).wf = true ∧ (Lit.int .i64 l[j].2.2.2.1).wf = true ∧ (Lit.int .i64 l[j].2.2.2.2).wf = true := by
  rcases Go.Deep.open_slice Try.underlying84 hf with ⟨hcs, _⟩ | ⟨ad, l, c, m, k, D, Pl, hcs, _, hl, hm, hmm, _, hcell⟩
  · simp at hcs
    subst hcs
    exact ⟨none, 0, 0, [], rfl, rfl, Nat.le_refl _, by omega, fun h => by simp at h, fun j h => by simp at h⟩
  · simp at hcs
    subst hcs
    simp at hmm
    subst hmm
    unfold maxLen at hm
    have each : ∀ i, i < l → ∃ r : Int × Int × Int × Int × Int, W.cell? (ad.add (i * 5)) = some (.int .i64 r.1) ∧ W.cell? (ad.add (i * 5 + 1)) = some (.int .i64 r.2.1) ∧ W.cell? (ad.add (i * 5 + 2)) = some (.int .i64 r.2.2.1) ∧ W.cell? (ad.add (i * 5 + 3)) = some (.int .i64 r.2.2.2.1) ∧ W.cell? (ad.add (i * 5 + 4)) = some (.int .i64 r.2.2.2.2) ∧ (Lit.int .i64 r.1).wf = true ∧ (Lit.int .i64 r.2.1).wf = true ∧ (Lit.int .i64 r.2.2.1).wf = true ∧ (Lit.int .i64 r.2.2.2.1).wf = true ∧ (Lit.int .i64 r.2.2.2.2).wf = true := by
      intro i hi
      obtain ⟨cs', h1, h2⟩ := hcell i (by omega)
      rw [openE11_cells] at h1
      obtain ⟨_, hlen, hc⟩ := World.cells?_some h1
      obtain ⟨xs, kk, hk, hxy, _, hxl, hf⟩ := DataW.trod_struct Try.underlying224 h2
      match xs, hxl, cs', hlen with
      | [y0, y1, y2, y3, y4], _, [v0, v1, v2, v3, v4], _ =>
        have g0 := hf 0 _ rfl
        have g1 := hf 1 _ rfl
        have g2 := hf 2 _ rfl
        have g3 := hf 3 _ rfl
        have g4 := hf 4 _ rfl
        simp [cells3] at g0 g1 g2 g3 g4
        have e0 := hc 0 (by omega)
        have e1 := hc 1 (by omega)
        have e2 := hc 2 (by omega)
        have e3 := hc 3 (by omega)
        have e4 := hc 4 (by omega)
        rw [Go.Deep.add_add] at e0 e1 e2 e3 e4
        obtain ⟨z0, q0, _, u0⟩ := DataW.trod_int Try.underlying3 g0
        obtain ⟨z1, q1, _, u1⟩ := DataW.trod_int Try.underlying3 g1
        obtain ⟨z2, q2, _, u2⟩ := DataW.trod_int Try.underlying3 g2
        obtain ⟨z3, q3, _, u3⟩ := DataW.trod_int Try.underlying3 g3
        obtain ⟨z4, q4, _, u4⟩ := DataW.trod_int Try.underlying3 g4
        simp at q0 q1 q2 q3 q4
        subst q0 q1 q2 q3 q4
        exact ⟨(z0, z1, z2, z3, z4), by simpa using e0, by simpa using e1, by simpa using e2, by simpa using e3, by simpa using e4, u0, u1, u2, u3, u4⟩
    obtain ⟨q, hq⟩ := Go.Deep.choose_lt each
    refine ⟨some ad, l, _, (List.range l).map q, rfl, by simp, hl, by omega, fun h0 => ?_, fun j hj => ?_⟩
    · have h0' : 0 < l := by simpa using h0
      obtain ⟨b, off, spot⟩ := ad
      have hspot : spot = none := by simpa [Addr.add] using World.cell?_spot (hq 0 (by omega)).1
      subst hspot
      refine ⟨b, off, rfl, fun j hj => ?_⟩
      have hj' : j < l := by simpa using hj
      obtain ⟨h0, h1, h2, h3, h4, _⟩ := hq j hj'
      rw [add_at] at h0 h1 h2 h3 h4
      simp only [List.getElem_map, List.getElem_range]
      exact ⟨h0, h1, h2, h3, h4⟩
    · have hj' : j < l := by simpa using hj
      simp only [List.getElem_map, List.getElem_range]
      exact (hq j hj').2.2.2.2.2
theorem box12_cells {w : World} {k : Nat} {t : TypeId} {x0 x1 x2 x3 x4 x5 x6 x7 x8 x9 x10 x11 : Value} (h : w.heap[k]? = some (.cells #[x0, x1, x2, x3, x4, x5, x6, x7, x8, x9, x10, x11] t)) :
    (w.cell? ⟨k, 0, none⟩ = some x0 ∧ w.cell? ⟨k, 1, none⟩ = some x1 ∧ w.cell? ⟨k, 2, none⟩ = some x2 ∧ w.cell? ⟨k, 3, none⟩ = some x3 ∧ w.cell? ⟨k, 4, none⟩ = some x4 ∧ w.cell? ⟨k, 5, none⟩ = some x5 ∧ w.cell? ⟨k, 6, none⟩ = some x6 ∧ w.cell? ⟨k, 7, none⟩ = some x7 ∧ w.cell? ⟨k, 8, none⟩ = some x8 ∧ w.cell? ⟨k, 9, none⟩ = some x9 ∧ w.cell? ⟨k, 10, none⟩ = some x10 ∧ w.cell? ⟨k, 11, none⟩ = some x11) ∧ w.frozen? ⟨k, 0, none⟩ = false ∧ w.frozen? ⟨k, 1, none⟩ = false ∧ w.frozen? ⟨k, 2, none⟩ = false ∧ w.frozen? ⟨k, 3, none⟩ = false ∧ w.frozen? ⟨k, 4, none⟩ = false ∧ w.frozen? ⟨k, 5, none⟩ = false ∧ w.frozen? ⟨k, 6, none⟩ = false ∧ w.frozen? ⟨k, 7, none⟩ = false ∧ w.frozen? ⟨k, 8, none⟩ = false ∧ w.frozen? ⟨k, 9, none⟩ = false ∧ w.frozen? ⟨k, 10, none⟩ = false ∧ w.frozen? ⟨k, 11, none⟩ = false := by
  refine ⟨⟨?_, ?_, ?_, ?_, ?_, ?_, ?_, ?_, ?_, ?_, ?_, ?_⟩, ?_, ?_, ?_, ?_, ?_, ?_, ?_, ?_, ?_, ?_, ?_, ?_⟩ <;> simp [World.cell?, World.frozen?, h]
/-- where the lists of a kernel lie -/
structure KH where
  s : SH
  qA : Option Addr
  cA : Nat
  qP : Option Addr
  cP : Nat
  qL : Option Addr
  cL : Nat
  qO : Option Addr
  cO : Nat
  qE : Option Addr
  cE : Nat
/-- what they hold -/
structure KX where
  X : SX
  A : List Int
  P : List PX
  L : List MsgL
  O : List Int
  tu : Int
  sp : Bool
  E : List Ent
def KerV (k : KH) (K : KX) : Value := .agg #[.slice k.s.q0 k.s.n0 k.s.c0, .slice k.s.q1 k.s.n1 k.s.c1, .slice k.s.q2 k.s.n2 k.s.c2, .slice k.s.q3 k.s.n3 k.s.c3, .slice k.s.q4 k.s.n4 k.s.c4, .slice k.qA K.A.length k.cA, .slice k.qP K.P.length k.cP, .slice k.qL K.L.length k.cL, .slice k.qO K.O.length k.cO, .int .i64 K.tu, .bool K.sp, .slice k.qE K.E.length k.cE]
structure RdK (w : World) (k : KH) (K : KX) : Prop where
  x : RdX w k.s K.X
  a : Rd w k.qA K.A
  ca : K.A.length ≤ k.cA
  p : RdP w k.qP K.P
  l : RdL w k.qL K.L
  o : Rd w k.qO K.O
  co : K.O.length ≤ k.cO
  e : RdE w k.qE K.E
theorem RdK.keep {w w' : World} {k : KH} {K : KX} {B : Nat} (h : RdK w k K) (hb : Below B w w') (hB : w.heap.size ≤ B) : RdK w' k K :=
  ⟨⟨h.x.l0, h.x.r0.keep hb hB, h.x.l1, h.x.r1.keep hb hB, h.x.l2, h.x.r2.keep hb hB, h.x.l3, h.x.r3.keep hb hB, h.x.l4, h.x.r4.keep hb hB⟩, h.a.keep hb hB, h.ca, h.p.keep hb hB, h.l.keep hb hB, h.o.keep hb hB, h.co, h.e.keep hb hB⟩
theorem RdK.on {w w' : World} {k : KH} {K : KX} (h : RdK w k K) (hb : Below w.heap.size w w') : RdK w' k K := h.keep hb (Nat.le_refl _)
structure LimK (k : KH) (K : KX) : Prop where
  x : LimX k.s K.X
  a : K.A.length ≤ 9223372036854775807
  p : K.P.length ≤ 9223372036854775807
  ps : ∀ j (h : j < K.P.length), K.P[j].sk.length ≤ 9223372036854775807
  l : K.L.length ≤ 9223372036854775807
  ls : ∀ j (h : j < K.L.length), K.L[j].length ≤ 9223372036854775807
  o : K.O.length ≤ 9223372036854775807
  e : K.E.length ≤ 9223372036854775807
structure SmK (k : KH) (K : KX) : Prop where
  x : SmX k.s K.X
  a : K.A.length ≤ 1048576
  p : K.P.length ≤ 1048576
  ps : ∀ j (h : j < K.P.length), K.P[j].sk.length ≤ 1048576
  l : K.L.length ≤ 1048576
  ls : ∀ j (h : j < K.L.length), K.L[j].length ≤ 1048576
  o : K.O.length ≤ 1048576
  e : K.E.length ≤ 1048576
/-- what the numbers of a kernel are, as they came in -/
structure WfK (K : KX) : Prop where
  u : WfU K.X.U
  a : ∀ j (h : j < K.A.length), (Lit.int .i64 K.A[j]).wf = true
  p : ∀ j (h : j < K.P.length), wfP K.P[j]
  o : ∀ j (h : j < K.O.length), (Lit.int .i64 K.O[j]).wf = true
  t : (Lit.int .i64 K.tu).wf = true
structure IsKer (w : World) (k : KH) (K : KX) : Prop where
  rd : RdK w k K
  lim : LimK k K
  wf : WfK K
/-- a set-up that was made anew, from block lo on -/
structure RwX (w : World) (lo : Nat) (s : SH) (X : SX) : Prop where
  ex : ∃ g0 g1 g2 g3 g4, s = ⟨some ⟨g0, 0, none⟩, X.R.length, X.R.length, some ⟨g1, 0, none⟩, X.W.length, X.W.length, some ⟨g2, 0, none⟩, X.O.length, X.O.length, some ⟨g3, 0, none⟩, X.U.length, X.U.length, some ⟨g4, 0, none⟩, X.S.length, X.S.length⟩ ∧ (lo ≤ g0 ∧ lo ≤ g1 ∧ lo ≤ g2 ∧ lo ≤ g3 ∧ lo ≤ g4) ∧ R.RowR w g0 X.R ∧ RowR w g1 X.W ∧ RowO w g2 X.O ∧ RowU w g3 X.U ∧ S.RowS w g4 X.S
theorem RwX.agree {w w' : World} {lo : Nat} {s : SH} {X : SX} (h : RwX w lo s X) (ha : Agr lo w w') : RwX w' lo s X := by
  obtain ⟨g0, g1, g2, g3, g4, e, ⟨l0, l1, l2, l3, l4⟩, r0, r1, r2, r3, r4⟩ := h.ex
  exact ⟨g0, g1, g2, g3, g4, e, ⟨l0, l1, l2, l3, l4⟩, agr_row ha l0 r0, agr_row ha l1 r1, agr_row ha l2 r2, agr_row ha l3 r3, agr_row ha l4 r4⟩
theorem RwX.less {w : World} {lo lo' : Nat} {s : SH} {X : SX} (h : RwX w lo s X) (hl : lo' ≤ lo) : RwX w lo' s X := by
  obtain ⟨g0, g1, g2, g3, g4, e, ⟨l0, l1, l2, l3, l4⟩, r0, r1, r2, r3, r4⟩ := h.ex
  exact ⟨g0, g1, g2, g3, g4, e, ⟨by omega, by omega, by omega, by omega, by omega⟩, r0, r1, r2, r3, r4⟩
theorem RwX.rd {w : World} {lo : Nat} {s : SH} {X : SX} (h : RwX w lo s X) : RdX w s X := by
  obtain ⟨g0, g1, g2, g3, g4, rfl, _, r0, r1, r2, r3, r4⟩ := h.ex
  exact ⟨rfl, r0.rd, rfl, r1.rd, rfl, r2.rd, rfl, r3.rd, rfl, r4.rd⟩
theorem RwX.cap {w : World} {lo : Nat} {s : SH} {X : SX} (h : RwX w lo s X) : s.n0 ≤ s.c0 := by
  obtain ⟨g0, g1, g2, g3, g4, rfl, _⟩ := h.ex
  exact Nat.le_refl _
/-- a list of numbers, of entries, that was made anew -/
def RwI (w : World) (lo : Nat) (q : Option Addr) (l : List Int) : Prop := ∃ g, q = some ⟨g, 0, none⟩ ∧ lo ≤ g ∧ RowAt w g l
def RwE (w : World) (lo : Nat) (q : Option Addr) (l : List Ent) : Prop := ∃ g, q = some ⟨g, 0, none⟩ ∧ lo ≤ g ∧ RowE w g l
theorem RwI.agree {w w' : World} {lo : Nat} {q : Option Addr} {l : List Int} (h : RwI w lo q l) (ha : Agr lo w w') : RwI w' lo q l := by
  obtain ⟨g, e, hl, hr⟩ := h
  exact ⟨g, e, hl, agr_row ha hl hr⟩
theorem RwE.agree {w w' : World} {lo : Nat} {q : Option Addr} {l : List Ent} (h : RwE w lo q l) (ha : Agr lo w w') : RwE w' lo q l := by
  obtain ⟨g, e, hl, hr⟩ := h
  exact ⟨g, e, hl, agr_row ha hl hr⟩
theorem RwI.rd {w : World} {lo : Nat} {q : Option Addr} {l : List Int} (h : RwI w lo q l) : Rd w q l := by
  obtain ⟨g, rfl, hl, hr⟩ := h
  exact hr.rd
theorem RwE.rd {w : World} {lo : Nat} {q : Option Addr} {l : List Ent} (h : RwE w lo q l) : RdE w q l := by
  obtain ⟨g, rfl, hl, hr⟩ := h
  exact hr.rd
/-- a kernel that was made anew, from block lo on: caps are lengths -/
structure OwnK (w : World) (lo : Nat) (k : KH) (K : KX) : Prop where
  x : RwX w lo k.s K.X
  a : RwI w lo k.qA K.A
  ca : k.cA = K.A.length
  p : OwnP w lo k.qP K.P
  cp : k.cP = K.P.length
  l : OwnL w lo k.qL K.L
  cl : k.cL = K.L.length
  o : RwI w lo k.qO K.O
  co : k.cO = K.O.length
  e : RwE w lo k.qE K.E
  ce : k.cE = K.E.length
theorem OwnK.agree {w w' : World} {lo : Nat} {k : KH} {K : KX} (h : OwnK w lo k K) (ha : Agr lo w w') : OwnK w' lo k K :=
  ⟨h.x.agree ha, h.a.agree ha, h.ca, h.p.agree ha, h.cp, h.l.agree ha, h.cl, h.o.agree ha, h.co, h.e.agree ha, h.ce⟩
theorem RwI.less {w : World} {lo lo' : Nat} {q : Option Addr} {l : List Int} (h : RwI w lo q l) (hl : lo' ≤ lo) : RwI w lo' q l := by
  obtain ⟨g, e, h1, hr⟩ := h
  exact ⟨g, e, Nat.le_trans hl h1, hr⟩
theorem RwE.less {w : World} {lo lo' : Nat} {q : Option Addr} {l : List Ent} (h : RwE w lo q l) (hl : lo' ≤ lo) : RwE w lo' q l := by
  obtain ⟨g, e, h1, hr⟩ := h
  exact ⟨g, e, Nat.le_trans hl h1, hr⟩
theorem OwnK.less {w : World} {lo lo' : Nat} {k : KH} {K : KX} (h : OwnK w lo k K) (hl : lo' ≤ lo) : OwnK w lo' k K :=
  ⟨h.x.less hl, h.a.less hl, h.ca, h.p.less hl, h.cp, h.l.less hl, h.cl, h.o.less hl, h.co, h.e.less hl, h.ce⟩
theorem OwnK.on {w w' : World} {lo : Nat} {k : KH} {K : KX} (h : OwnK w lo k K) (hb : Below w.heap.size w w') : OwnK w' lo k K := h.agree (agr_below lo hb)
theorem OwnK.rd {w : World} {lo : Nat} {k : KH} {K : KX} (h : OwnK w lo k K) : RdK w k K :=
  ⟨h.x.rd, h.a.rd, by rw [h.ca]; exact Nat.le_refl _, h.p.rd, h.l.rd, h.o.rd, by rw [h.co]; exact Nat.le_refl _, h.e.rd⟩
theorem sm_ofX {w w' : World} {s s' : SH} {X : SX} (h : SmX s X) (hr : RdX w s X) (hr' : RdX w' s' X) : SmX s' X :=
  ⟨by rw [← hr'.l0, hr.l0]; exact h.n0, by rw [← hr'.l1, hr.l1]; exact h.n1, by rw [← hr'.l2, hr.l2]; exact h.n2, by rw [← hr'.l3, hr.l3]; exact h.n3, by rw [← hr'.l4, hr.l4]; exact h.n4, h.b⟩
theorem sm_ofK {w w' : World} {k k' : KH} {K : KX} (h : SmK k K) (hr : RdK w k K) (hr' : RdK w' k' K) : SmK k' K :=
  ⟨sm_ofX h.x hr.x hr'.x, h.a, h.p, h.ps, h.l, h.ls, h.o, h.e⟩
theorem cellsKer : Try.prog.cellsOf 86 = 12 := by kernel_rfl
theorem cellsK_S : Try.prog.cellsOf 80 = 5 := by kernel_rfl
theorem cellsK_A : Try.prog.cellsOf 81 = 1 := by kernel_rfl
theorem cellsK_P : Try.prog.cellsOf 82 = 1 := by kernel_rfl
theorem cellsK_L : Try.prog.cellsOf 83 = 1 := by kernel_rfl
theorem cellsK_I : Try.prog.cellsOf 31 = 1 := by kernel_rfl
theorem cellsK_B : Try.prog.cellsOf 4 = 1 := by kernel_rfl
theorem cellsK_E : Try.prog.cellsOf 84 = 1 := by kernel_rfl
set_option maxRecDepth 100000 in
set_option maxHeartbeats 2000000 in
theorem open_kernel {H : Type} {enc : TypeId × Value → H} {W : World} {base : Nat} {held : Bool} {v : Value} {d : DataW H} {ps : List MemPlace} {bs : Nat}
    (hv : Value.okWide Try.prog W .any base 86 v) (h : DataW.Trod enc Try.prog W bs (fun _ => true) held 86 v d ps) :
    ∃ k K, v = KerV k K ∧ IsKer W k K := by
  obtain ⟨cs, rfl, hsz⟩ := okWide_struct Try.underlying86 hv
  rw [cellsKer] at hsz
  obtain ⟨l⟩ := cs
  match l, hsz with
  | [c0, c1, c2, c3, c4, c5, c6, c7, c8, c9, c10, c11], _ =>
  obtain ⟨fuel, hf⟩ := h
  obtain ⟨xs, n, _, _, hl, hlen, hg⟩ := DataW.trod_struct Try.underlying86 hf
  match xs, hlen with
  | [y0, y1, y2, y3, y4, y5, y6, y7], _ =>
  have g0 := hg 0 _ rfl
  have g1 := hg 1 _ rfl
  have g2 := hg 2 _ rfl
  have g3 := hg 3 _ rfl
  have g4 := hg 4 _ rfl
  have g5 := hg 5 _ rfl
  have g6 := hg 6 _ rfl
  have g7 := hg 7 _ rfl
  simp [cells3, cellsK_S, cellsK_A, cellsK_P, cellsK_L, cellsK_I, cellsK_B, cellsK_E] at g0 g1 g2 g3 g4 g5 g6 g7
  obtain ⟨xs0, m0, _, _, hl0, hlen0, hg0⟩ := DataW.trod_struct Try.underlying80 g0
  obtain ⟨xs1, m1, _, _, hl1, hlen1, hg1⟩ := DataW.trod_struct Try.underlying81 g1
  match xs0, hlen0, xs1, hlen1 with
  | [z0, z1, z2, z3, z4], _, [z5], _ =>
  have f0 := hg0 0 _ rfl
  have f1 := hg0 1 _ rfl
  have f2 := hg0 2 _ rfl
  have f3 := hg0 3 _ rfl
  have f4 := hg0 4 _ rfl
  have f5 := hg1 0 _ rfl
  simp only [List.getElem?_cons_zero, List.getElem?_cons_succ] at f0 f1 f2 f3 f4 f5
  obtain ⟨q0, n0, k0, x0, e0, a0, b0, m0, r0, _⟩ := openR11 (v := c0) f0
  obtain ⟨q1, n1, k1, x1, e1, a1, b1, m1, r1, _⟩ := openW11 (v := c1) f1
  obtain ⟨q2, n2, k2, x2, e2, a2, b2, m2, r2, _⟩ := openO11 (v := c2) f2
  obtain ⟨q3, n3, k3, x3, e3, a3, b3, m3, r3, w3⟩ := openU11 (v := c3) f3
  obtain ⟨q4, n4, k4, x4, e4, a4, b4, m4, r4, z4⟩ := S.openS (v := c4) f4
  obtain ⟨q5, n5, k5, x5, e5, a5, b5, m5, r5, w5⟩ := C.openI (v := c5) f5
  obtain ⟨q6, n6, k6, x6, e6, a6, b6, m6, r6, w6⟩ := openP (v := c6) g2
  obtain ⟨q7, n7, k7, x7, e7, a7, b7, m7, r7, w7⟩ := openL (v := c7) g3
  obtain ⟨q8, n8, k8, x8, e8, a8, b8, m8, r8, w8⟩ := C.openI (v := c8) g4
  obtain ⟨tu, e9, _, w9⟩ := DataW.trod_int Try.underlying3 g5
  obtain ⟨sp, e10, _⟩ := DataW.trod_bool Try.underlying4 g6
  obtain ⟨q11, n11, k11, x11, e11, a11, b11, m11, r11, _⟩ := openE11 (v := c11) g7
  have e9' : c9 = .int .i64 tu := by simpa [Value.cells] using e9
  have e10' : c10 = .bool sp := by simpa [Value.cells] using e10
  clear e9 e10
  subst e0 e1 e2 e3 e4 e5 e6 e7 e8 e9' e10' e11
  subst a5 a6 a7 a8 a11
  exact ⟨⟨⟨q0, n0, k0, q1, n1, k1, q2, n2, k2, q3, n3, k3, q4, n4, k4⟩, q5, k5, q6, k6, q7, k7, q8, k8, q11, k11⟩, ⟨⟨x0, x1, x2, x3, x4⟩, x5, x6, x7, x8, tu, sp, x11⟩, rfl,
    ⟨⟨⟨a0, r0, a1, r1, a2, r2, a3, r3, a4, r4⟩, r5, b5, r6, r7, r8, b8, r11⟩, ⟨⟨m0, m1, m2, m3, m4, z4⟩, m5, m6, fun j h => (w6 j h).2, m7, w7, m8, m11⟩, ⟨w3, w5, fun j h => (w6 j h).1, w8, w9⟩⟩⟩
end Go.Proofs.Ytfdhcchakoldpaa
