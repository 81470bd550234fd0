/-
  The specification's PartView.
-/
import Derived.Test.YtfdhcchakoldpaaKPvN
namespace Go.Proofs.Ytfdhcchakoldpaa
open Go.ChangeShapes Go.WideShapes Go.ChangeAt Go.RowKit Go.PlainAid
set_option linter.unusedVariables false
set_option linter.unusedSimpArgs false

theorem t_keep {W W' : World} {p0 p1 p2 p3 p4 p5 p6 p7 p8 p9 p10 p11 p12 : Addr} {v0 v1 v2 v3 v4 v5 v6 v7 v8 v9 v10 v11 v12 : Value} (h : W.cell? p0 = some v0 ∧ W.cell? p1 = some v1 ∧ W.cell? p2 = some v2 ∧ W.cell? p3 = some v3 ∧ W.cell? p4 = some v4 ∧ W.cell? p5 = some v5 ∧ W.cell? p6 = some v6 ∧ W.cell? p7 = some v7 ∧ W.cell? p8 = some v8 ∧ W.cell? p9 = some v9 ∧ W.cell? p10 = some v10 ∧ W.cell? p11 = some v11 ∧ W.cell? p12 = some v12) (hb : Below W.heap.size W W') : W'.cell? p0 = some v0 ∧ W'.cell? p1 = some v1 ∧ W'.cell? p2 = some v2 ∧ W'.cell? p3 = some v3 ∧ W'.cell? p4 = some v4 ∧ W'.cell? p5 = some v5 ∧ W'.cell? p6 = some v6 ∧ W'.cell? p7 = some v7 ∧ W'.cell? p8 = some v8 ∧ W'.cell? p9 = some v9 ∧ W'.cell? p10 = some v10 ∧ W'.cell? p11 = some v11 ∧ W'.cell? p12 = some v12 :=
  ⟨cell_on (h.1) hb, cell_on (h.2.1) hb, cell_on (h.2.2.1) hb, cell_on (h.2.2.2.1) hb, cell_on (h.2.2.2.2.1) hb, cell_on (h.2.2.2.2.2.1) hb, cell_on (h.2.2.2.2.2.2.1) hb, cell_on (h.2.2.2.2.2.2.2.1) hb, cell_on (h.2.2.2.2.2.2.2.2.1) hb, cell_on (h.2.2.2.2.2.2.2.2.2.1) hb, cell_on (h.2.2.2.2.2.2.2.2.2.2.1) hb, cell_on (h.2.2.2.2.2.2.2.2.2.2.2.1) hb, cell_on (h.2.2.2.2.2.2.2.2.2.2.2.2) hb⟩
theorem t_set {W : World} {p0 p1 p2 p3 p4 p5 p6 p7 p8 p9 p10 p11 p12 : Addr} {v0 v1 v2 v3 v4 v5 v6 v7 v8 v9 v10 v11 v12 : Value} {r i : Nat} {v : Value} (h : W.cell? p0 = some v0 ∧ W.cell? p1 = some v1 ∧ W.cell? p2 = some v2 ∧ W.cell? p3 = some v3 ∧ W.cell? p4 = some v4 ∧ W.cell? p5 = some v5 ∧ W.cell? p6 = some v6 ∧ W.cell? p7 = some v7 ∧ W.cell? p8 = some v8 ∧ W.cell? p9 = some v9 ∧ W.cell? p10 = some v10 ∧ W.cell? p11 = some v11 ∧ W.cell? p12 = some v12) (hne : p0.block ≠ r ∧ p1.block ≠ r ∧ p2.block ≠ r ∧ p3.block ≠ r ∧ p4.block ≠ r ∧ p5.block ≠ r ∧ p6.block ≠ r ∧ p7.block ≠ r ∧ p8.block ≠ r ∧ p9.block ≠ r ∧ p10.block ≠ r ∧ p11.block ≠ r ∧ p12.block ≠ r) : (W.setCell ⟨r, i, none⟩ v).cell? p0 = some v0 ∧ (W.setCell ⟨r, i, none⟩ v).cell? p1 = some v1 ∧ (W.setCell ⟨r, i, none⟩ v).cell? p2 = some v2 ∧ (W.setCell ⟨r, i, none⟩ v).cell? p3 = some v3 ∧ (W.setCell ⟨r, i, none⟩ v).cell? p4 = some v4 ∧ (W.setCell ⟨r, i, none⟩ v).cell? p5 = some v5 ∧ (W.setCell ⟨r, i, none⟩ v).cell? p6 = some v6 ∧ (W.setCell ⟨r, i, none⟩ v).cell? p7 = some v7 ∧ (W.setCell ⟨r, i, none⟩ v).cell? p8 = some v8 ∧ (W.setCell ⟨r, i, none⟩ v).cell? p9 = some v9 ∧ (W.setCell ⟨r, i, none⟩ v).cell? p10 = some v10 ∧ (W.setCell ⟨r, i, none⟩ v).cell? p11 = some v11 ∧ (W.setCell ⟨r, i, none⟩ v).cell? p12 = some v12 :=
  ⟨put_cell (h.1) hne.1, put_cell (h.2.1) hne.2.1, put_cell (h.2.2.1) hne.2.2.1, put_cell (h.2.2.2.1) hne.2.2.2.1, put_cell (h.2.2.2.2.1) hne.2.2.2.2.1, put_cell (h.2.2.2.2.2.1) hne.2.2.2.2.2.1, put_cell (h.2.2.2.2.2.2.1) hne.2.2.2.2.2.2.1, put_cell (h.2.2.2.2.2.2.2.1) hne.2.2.2.2.2.2.2.1, put_cell (h.2.2.2.2.2.2.2.2.1) hne.2.2.2.2.2.2.2.2.1, put_cell (h.2.2.2.2.2.2.2.2.2.1) hne.2.2.2.2.2.2.2.2.2.1, put_cell (h.2.2.2.2.2.2.2.2.2.2.1) hne.2.2.2.2.2.2.2.2.2.2.1, put_cell (h.2.2.2.2.2.2.2.2.2.2.2.1) hne.2.2.2.2.2.2.2.2.2.2.2.1, put_cell (h.2.2.2.2.2.2.2.2.2.2.2.2) hne.2.2.2.2.2.2.2.2.2.2.2.2⟩
theorem t_set6 {W : World} {p0 p1 p2 p3 p4 p5 p6 p7 p8 p9 p10 p11 p12 : Addr} {v0 v1 v2 v3 v4 v5 v6 v7 v8 v9 v10 v11 v12 : Value} {r : Nat} {x0 x1 x2 x3 x4 x5 : Value} (h : W.cell? p0 = some v0 ∧ W.cell? p1 = some v1 ∧ W.cell? p2 = some v2 ∧ W.cell? p3 = some v3 ∧ W.cell? p4 = some v4 ∧ W.cell? p5 = some v5 ∧ W.cell? p6 = some v6 ∧ W.cell? p7 = some v7 ∧ W.cell? p8 = some v8 ∧ W.cell? p9 = some v9 ∧ W.cell? p10 = some v10 ∧ W.cell? p11 = some v11 ∧ W.cell? p12 = some v12) (hne : p0.block ≠ r ∧ p1.block ≠ r ∧ p2.block ≠ r ∧ p3.block ≠ r ∧ p4.block ≠ r ∧ p5.block ≠ r ∧ p6.block ≠ r ∧ p7.block ≠ r ∧ p8.block ≠ r ∧ p9.block ≠ r ∧ p10.block ≠ r ∧ p11.block ≠ r ∧ p12.block ≠ r) : ((((((W.setCell ⟨r, 0, none⟩ x0).setCell ⟨r, 1, none⟩ x1).setCell ⟨r, 2, none⟩ x2).setCell ⟨r, 3, none⟩ x3).setCell ⟨r, 4, none⟩ x4).setCell ⟨r, 5, none⟩ x5).cell? p0 = some v0 ∧ ((((((W.setCell ⟨r, 0, none⟩ x0).setCell ⟨r, 1, none⟩ x1).setCell ⟨r, 2, none⟩ x2).setCell ⟨r, 3, none⟩ x3).setCell ⟨r, 4, none⟩ x4).setCell ⟨r, 5, none⟩ x5).cell? p1 = some v1 ∧ ((((((W.setCell ⟨r, 0, none⟩ x0).setCell ⟨r, 1, none⟩ x1).setCell ⟨r, 2, none⟩ x2).setCell ⟨r, 3, none⟩ x3).setCell ⟨r, 4, none⟩ x4).setCell ⟨r, 5, none⟩ x5).cell? p2 = some v2 ∧ ((((((W.setCell ⟨r, 0, none⟩ x0).setCell ⟨r, 1, none⟩ x1).setCell ⟨r, 2, none⟩ x2).setCell ⟨r, 3, none⟩ x3).setCell ⟨r, 4, none⟩ x4).setCell ⟨r, 5, none⟩ x5).cell? p3 = some v3 ∧ ((((((W.setCell ⟨r, 0, none⟩ x0).setCell ⟨r, 1, none⟩ x1).setCell ⟨r, 2, none⟩ x2).setCell ⟨r, 3, none⟩ x3).setCell ⟨r, 4, none⟩ x4).setCell ⟨r, 5, none⟩ x5).cell? p4 = some v4 ∧ ((((((W.setCell ⟨r, 0, none⟩ x0).setCell ⟨r, 1, none⟩ x1).setCell ⟨r, 2, none⟩ x2).setCell ⟨r, 3, none⟩ x3).setCell ⟨r, 4, none⟩ x4).setCell ⟨r, 5, none⟩ x5).cell? p5 = some v5 ∧ ((((((W.setCell ⟨r, 0, none⟩ x0).setCell ⟨r, 1, none⟩ x1).setCell ⟨r, 2, none⟩ x2).setCell ⟨r, 3, none⟩ x3).setCell ⟨r, 4, none⟩ x4).setCell ⟨r, 5, none⟩ x5).cell? p6 = some v6 ∧ ((((((W.setCell ⟨r, 0, none⟩ x0).setCell ⟨r, 1, none⟩ x1).setCell ⟨r, 2, none⟩ x2).setCell ⟨r, 3, none⟩ x3).setCell ⟨r, 4, none⟩ x4).setCell ⟨r, 5, none⟩ x5).cell? p7 = some v7 ∧ ((((((W.setCell ⟨r, 0, none⟩ x0).setCell ⟨r, 1, none⟩ x1).setCell ⟨r, 2, none⟩ x2).setCell ⟨r, 3, none⟩ x3).setCell ⟨r, 4, none⟩ x4).setCell ⟨r, 5, none⟩ x5).cell? p8 = some v8 ∧ ((((((W.setCell ⟨r, 0, none⟩ x0).setCell ⟨r, 1, none⟩ x1).setCell ⟨r, 2, none⟩ x2).setCell ⟨r, 3, none⟩ x3).setCell ⟨r, 4, none⟩ x4).setCell ⟨r, 5, none⟩ x5).cell? p9 = some v9 ∧ ((((((W.setCell ⟨r, 0, none⟩ x0).setCell ⟨r, 1, none⟩ x1).setCell ⟨r, 2, none⟩ x2).setCell ⟨r, 3, none⟩ x3).setCell ⟨r, 4, none⟩ x4).setCell ⟨r, 5, none⟩ x5).cell? p10 = some v10 ∧ ((((((W.setCell ⟨r, 0, none⟩ x0).setCell ⟨r, 1, none⟩ x1).setCell ⟨r, 2, none⟩ x2).setCell ⟨r, 3, none⟩ x3).setCell ⟨r, 4, none⟩ x4).setCell ⟨r, 5, none⟩ x5).cell? p11 = some v11 ∧ ((((((W.setCell ⟨r, 0, none⟩ x0).setCell ⟨r, 1, none⟩ x1).setCell ⟨r, 2, none⟩ x2).setCell ⟨r, 3, none⟩ x3).setCell ⟨r, 4, none⟩ x4).setCell ⟨r, 5, none⟩ x5).cell? p12 = some v12 :=
  t_set (t_set (t_set (t_set (t_set (t_set h hne) hne) hne) hne) hne) hne
theorem rd_set {W : World} {q : Option Addr} {l : List Int} {r i : Nat} {x : Value} (h : Rd W q l) (hne : ∀ a, q = some a → a.block ≠ r) : Rd (W.setCell ⟨r, i, none⟩ x) q l := fun h0 => by
  obtain ⟨g, off, e, hc⟩ := h h0
  exact ⟨g, off, e, fun j hj => put_cell (hc j hj) (show g ≠ r from hne _ e)⟩
theorem rd_set6 {W : World} {q : Option Addr} {l : List Int} {r : Nat} {x0 x1 x2 x3 x4 x5 : Value} (h : Rd W q l) (hne : ∀ a, q = some a → a.block ≠ r) : Rd ((((((W.setCell ⟨r, 0, none⟩ x0).setCell ⟨r, 1, none⟩ x1).setCell ⟨r, 2, none⟩ x2).setCell ⟨r, 3, none⟩ x3).setCell ⟨r, 4, none⟩ x4).setCell ⟨r, 5, none⟩ x5) q l :=
  rd_set (rd_set (rd_set (rd_set (rd_set (rd_set h hne) hne) hne) hne) hne) hne
theorem rd_new (w : World) (o1 o2 : Int) : Rd (w.alloc (.cells #[.int .i64 o1, .int .i64 o2] 3)) (some ⟨w.heap.size, 0, none⟩) [o1, o2] := (show RowAt _ _ [o1, o2] from heap_new w _).rd
theorem ownN_rd {w : World} {B g n c : Nat} {l : List Int} (h : C.OwnN w B g n c l) : Rd w (some ⟨g, 0, none⟩) l := by
  obtain ⟨a, cap, e, _, _, hr⟩ := own_rd h
  cases e
  exact hr
set_option maxRecDepth 100000 in
set_option maxHeartbeats 4000000 in
theorem viewS (k : KH) (K : KX) (j lo : Nat) (hjP : j < K.P.length) (hjR : j < K.X.R.length) (hjO : 2 * (j + 1) ≤ K.O.length) (w : World) (h : OwnK w lo k K) (hs : SmK k K) :
    Calls Try.prog 37 #[KerV k K, .int .i64 ((j : Int) + 1)] w fun e w' => ∃ q1 c1 q2 c2 q3 c3, e = .returned (.tuple #[.agg #[.int .i64 K.P[j].st, .int .i64 K.P[j].pc, .slice q1 K.P[j].sk.length c1, .int .i64 K.P[j].ss, .int .i64 K.P[j].en, .int .i64 K.P[j].la], .slice q2 (C.cutN K.A.length K.X.R[j].1 K.X.R[j].2) c2, .slice q3 2 c3]) ∧ Rd w' q1 K.P[j].sk ∧ Rd w' q2 (C.ceL K.A K.X.R[j].1 K.X.R[j].2) ∧ Rd w' q3 [K.O[2 * j]'(by omega), K.O[2 * j + 1]'(by omega)] ∧ Below w.heap.size w w' := by
  obtain ⟨s, qA, cA, qP, cP, qL, cL, qO, cO, qE, cE⟩ := k
  obtain ⟨X, A, P, L, O, tu, sp, E⟩ := K
  obtain ⟨gA, eA, lA, rA⟩ := h.a
  obtain ⟨gP, bP, vP, eP, lP, rP, nvP, cvP⟩ := h.p.ex
  obtain ⟨gL, bL, vL, eL, _⟩ := h.l.ex
  obtain ⟨gO, eO, lO, rO⟩ := h.o
  obtain ⟨gE, eE, lE, rE⟩ := h.e
  obtain ⟨gR, x1, x2, x3, x4, eX, _, rR, _⟩ := h.x.ex
  have f1 := h.ca
  have f2 := h.cp
  have f3 := h.cl
  have f4 := h.co
  have f5 := h.ce
  have m1 := hs.a
  have m2 := hs.p
  have m4 := hs.o
  have m0 := hs.x.n0
  have hsz := hs.ps j hjP
  dsimp only at eA eP eL eO eE eX rA rP rO rR nvP cvP f1 f2 f3 f4 f5 m1 m2 m4 m0 hjP hjR hjO hsz ⊢
  subst eA eP eL eO eE eX f1 f2 f3 f4 f5
  dsimp only at m0
  have hcP := (celP_of rP (show j < vP.length by omega) (cvP j hjP (by omega)).1 (cvP j hjP (by omega)).2.2)
  have hcPc := rP.cell j (show j < vP.length by omega)
  rw [(cvP j hjP (by omega)).1] at hcPc
  unfold pvOf at hcPc
  have hcR := rR.cell j hjR
  have hcO1 := rO.cell (2 * j) (by omega)
  have hcO2 := rO.cell (2 * j + 1) (by omega)
  have hrs := (cvP j hjP (by omega)).2.2
  generalize bP j = ba at *
  obtain ⟨Q, hQ⟩ : ∃ Q, P[j] = Q := ⟨_, rfl⟩
  obtain ⟨f, hf⟩ : ∃ f, X.R[j].1 = f := ⟨_, rfl⟩
  obtain ⟨z, hz⟩ : ∃ z, X.R[j].2 = z := ⟨_, rfl⟩
  obtain ⟨o1, ho1⟩ : ∃ x, O[2 * j]'(by omega) = x := ⟨_, rfl⟩
  obtain ⟨o2, ho2⟩ : ∃ x, O[2 * j + 1]'(by omega) = x := ⟨_, rfl⟩
  rw [hQ] at hcPc hrs hsz ⊢
  rw [hf, hz] at hcR ⊢
  rw [ho1] at hcO1 ⊢
  rw [ho2] at hcO2 ⊢
  obtain ⟨st, pc, sk, ss, en, la⟩ := Q
  dsimp only at hcPc hrs hsz ⊢
  obtain ⟨m, hm⟩ : ∃ m, sk.length = m := ⟨_, rfl⟩
  rw [hm] at hcPc hsz ⊢
  have HM : Hid (sk.length = m) := hm
  have RS : Hid (Rd w (some ⟨ba, 0, none⟩) sk) := hrs.rd
  have RA : Hid (Rd w (some ⟨gA, 0, none⟩) A) := rA.rd
  unfold KerV
  dsimp only
  obtain ⟨nA, hA⟩ : ∃ n, A.length = n := ⟨_, rfl⟩
  obtain ⟨nP, hP⟩ : ∃ n, P.length = n := ⟨_, rfl⟩
  obtain ⟨nL, hL⟩ : ∃ n, L.length = n := ⟨_, rfl⟩
  obtain ⟨nO, hO⟩ : ∃ n, O.length = n := ⟨_, rfl⟩
  obtain ⟨nE, hE⟩ : ∃ n, E.length = n := ⟨_, rfl⟩
  obtain ⟨nR, hR⟩ : ∃ n, X.R.length = n := ⟨_, rfl⟩
  obtain ⟨y1, hy1⟩ : ∃ n, X.W.length = n := ⟨_, rfl⟩
  obtain ⟨y2, hy2⟩ : ∃ n, X.O.length = n := ⟨_, rfl⟩
  obtain ⟨y3, hy3⟩ : ∃ n, X.U.length = n := ⟨_, rfl⟩
  obtain ⟨y4, hy4⟩ : ∃ n, X.S.length = n := ⟨_, rfl⟩
  have HLA : Hid (A.length = nA) := hA
  rw [hA, hP, hL, hO, hE, hR, hy1, hy2, hy3, hy4]
  rw [hA] at m1
  rw [hP] at m2 hjP
  rw [hO] at m4 hjO
  rw [hR] at m0 hjR
  have HC : Hid ((w.cell? ⟨gP, j * 6, none⟩ = some (.int .i64 st) ∧ w.cell? ⟨gP, j * 6 + 1, none⟩ = some (.int .i64 pc) ∧ w.cell? ⟨gP, j * 6 + 2, none⟩ = some (.slice (some ⟨ba, 0, none⟩) m m) ∧ w.cell? ⟨gP, j * 6 + 3, none⟩ = some (.int .i64 ss) ∧ w.cell? ⟨gP, j * 6 + 4, none⟩ = some (.int .i64 en) ∧ w.cell? ⟨gP, j * 6 + 5, none⟩ = some (.int .i64 la)) ∧ (w.cell? ⟨gR, j * 2, none⟩ = some (.int .i64 f) ∧ w.cell? ⟨gR, j * 2 + 1, none⟩ = some (.int .i64 z)) ∧ w.cell? ⟨gO, 2 * j, none⟩ = some (.int .i64 o1) ∧ w.cell? ⟨gO, 2 * j + 1, none⟩ = some (.int .i64 o2)) := ⟨hcPc, hcR, hcO1, hcO2⟩
  have HI0 : Hid (((w.alloc (.cells #[.slice (some ⟨gR, 0, none⟩) nR nR, .slice (some ⟨x1, 0, none⟩) y1 y1, .slice (some ⟨x2, 0, none⟩) y2 y2, .slice (some ⟨x3, 0, none⟩) y3 y3, .slice (some ⟨x4, 0, none⟩) y4 y4, .slice (some ⟨gA, 0, none⟩) nA nA, .slice (some ⟨gP, 0, none⟩) nP nP, .slice (some ⟨gL, 0, none⟩) nL nL, .slice (some ⟨gO, 0, none⟩) nO nO, .int .i64 tu, .bool sp, .slice (some ⟨gE, 0, none⟩) nE nE] 38)).alloc (.cells #[.int .i64 0, .int .i64 0, .slice none 0 0, .int .i64 0, .int .i64 0, .int .i64 0] 100)).heap[w.heap.size]? = some (.cells #[.slice (some ⟨gR, 0, none⟩) nR nR, .slice (some ⟨x1, 0, none⟩) y1 y1, .slice (some ⟨x2, 0, none⟩) y2 y2, .slice (some ⟨x3, 0, none⟩) y3 y3, .slice (some ⟨x4, 0, none⟩) y4 y4, .slice (some ⟨gA, 0, none⟩) nA nA, .slice (some ⟨gP, 0, none⟩) nP nP, .slice (some ⟨gL, 0, none⟩) nL nL, .slice (some ⟨gO, 0, none⟩) nO nO, .int .i64 tu, .bool sp, .slice (some ⟨gE, 0, none⟩) nE nE] 38)) := al2_1 w _ _
  have HZ0 : Hid (((w.alloc (.cells #[.slice (some ⟨gR, 0, none⟩) nR nR, .slice (some ⟨x1, 0, none⟩) y1 y1, .slice (some ⟨x2, 0, none⟩) y2 y2, .slice (some ⟨x3, 0, none⟩) y3 y3, .slice (some ⟨x4, 0, none⟩) y4 y4, .slice (some ⟨gA, 0, none⟩) nA nA, .slice (some ⟨gP, 0, none⟩) nP nP, .slice (some ⟨gL, 0, none⟩) nL nL, .slice (some ⟨gO, 0, none⟩) nO nO, .int .i64 tu, .bool sp, .slice (some ⟨gE, 0, none⟩) nE nE] 38)).alloc (.cells #[.int .i64 0, .int .i64 0, .slice none 0 0, .int .i64 0, .int .i64 0, .int .i64 0] 100)).heap[w.heap.size + 1]? = some (.cells #[.int .i64 0, .int .i64 0, .slice none 0 0, .int .i64 0, .int .i64 0, .int .i64 0] 100)) := al2_2 w _ _
  have HB0 : Hid (Below w.heap.size w ((w.alloc (.cells #[.slice (some ⟨gR, 0, none⟩) nR nR, .slice (some ⟨x1, 0, none⟩) y1 y1, .slice (some ⟨x2, 0, none⟩) y2 y2, .slice (some ⟨x3, 0, none⟩) y3 y3, .slice (some ⟨x4, 0, none⟩) y4 y4, .slice (some ⟨gA, 0, none⟩) nA nA, .slice (some ⟨gP, 0, none⟩) nP nP, .slice (some ⟨gL, 0, none⟩) nL nL, .slice (some ⟨gO, 0, none⟩) nO nO, .int .i64 tu, .bool sp, .slice (some ⟨gE, 0, none⟩) nE nE] 38)).alloc (.cells #[.int .i64 0, .int .i64 0, .slice none 0 0, .int .i64 0, .int .i64 0, .int .i64 0] 100))) := al2_b w _ _
  clear h hs hA hP hL hO hE hR hy1 hy2 hy3 hy4 rA rP rO rR cvP nvP hcP hcPc hcR hcO1 hcO2 hrs hm hQ hf hz ho1 ho2
  have k0 := box12_cells HI0.out
  have hd : decide (1 ≤ (j : Int) + 1 ∧ (j : Int) + 1 ≤ (nP : Int)) = true := decide_eq_true ⟨by omega, by omega⟩
  go_enter Try.func37, Try.ntmps37
  go_wp2_with fail
  refine (inS 1 nP ((j : Int) + 1) true hd _).mono ?_
  rintro e w1 ⟨rfl, rfl⟩
  clear hd
  have cc1 := cell_on HC.out.1.1 HB0.out
  have cc2 := cell_on HC.out.1.2.1 HB0.out
  have cc3 := cell_on HC.out.1.2.2.1 HB0.out
  have cc4 := cell_on HC.out.1.2.2.2.1 HB0.out
  have cc5 := cell_on HC.out.1.2.2.2.2.1 HB0.out
  have cc6 := cell_on HC.out.1.2.2.2.2.2 HB0.out
  have q1 : ¬ (nR : Int) < (j : Int) + 1 := by omega
  have q2 : ¬ (nO : Int) < 2 * ((j : Int) + 1) := by omega
  have q3 : wrap64 (2 * ((j : Int) + 1)) = 2 * ((j : Int) + 1) := wrap64_in (by omega) (by omega)
  have q4 : (0 : Int) ≤ (j : Int) := by omega
  have q5 : (j : Int) < (nP : Int) := by omega
  have hal : Below ((w.alloc (.cells #[.slice (some ⟨gR, 0, none⟩) nR nR, .slice (some ⟨x1, 0, none⟩) y1 y1, .slice (some ⟨x2, 0, none⟩) y2 y2, .slice (some ⟨x3, 0, none⟩) y3 y3, .slice (some ⟨x4, 0, none⟩) y4 y4, .slice (some ⟨gA, 0, none⟩) nA nA, .slice (some ⟨gP, 0, none⟩) nP nP, .slice (some ⟨gL, 0, none⟩) nL nL, .slice (some ⟨gO, 0, none⟩) nO nO, .int .i64 tu, .bool sp, .slice (some ⟨gE, 0, none⟩) nE nE] 38)).alloc (.cells #[.int .i64 0, .int .i64 0, .slice none 0 0, .int .i64 0, .int .i64 0, .int .i64 0] 100)).heap.size ((w.alloc (.cells #[.slice (some ⟨gR, 0, none⟩) nR nR, .slice (some ⟨x1, 0, none⟩) y1 y1, .slice (some ⟨x2, 0, none⟩) y2 y2, .slice (some ⟨x3, 0, none⟩) y3 y3, .slice (some ⟨x4, 0, none⟩) y4 y4, .slice (some ⟨gA, 0, none⟩) nA nA, .slice (some ⟨gP, 0, none⟩) nP nP, .slice (some ⟨gL, 0, none⟩) nL nL, .slice (some ⟨gO, 0, none⟩) nO nO, .int .i64 tu, .bool sp, .slice (some ⟨gE, 0, none⟩) nE nE] 38)).alloc (.cells #[.int .i64 0, .int .i64 0, .slice none 0 0, .int .i64 0, .int .i64 0, .int .i64 0] 100)) (((w.alloc (.cells #[.slice (some ⟨gR, 0, none⟩) nR nR, .slice (some ⟨x1, 0, none⟩) y1 y1, .slice (some ⟨x2, 0, none⟩) y2 y2, .slice (some ⟨x3, 0, none⟩) y3 y3, .slice (some ⟨x4, 0, none⟩) y4 y4, .slice (some ⟨gA, 0, none⟩) nA nA, .slice (some ⟨gP, 0, none⟩) nP nP, .slice (some ⟨gL, 0, none⟩) nL nL, .slice (some ⟨gO, 0, none⟩) nO nO, .int .i64 tu, .bool sp, .slice (some ⟨gE, 0, none⟩) nE nE] 38)).alloc (.cells #[.int .i64 0, .int .i64 0, .slice none 0 0, .int .i64 0, .int .i64 0, .int .i64 0] 100)).alloc (.cells #[.int .i64 st, .int .i64 pc, .slice (some ⟨ba, 0, none⟩) m m, .int .i64 ss, .int .i64 en, .int .i64 la] 100)) := (Below.refl _ _).alloc (Nat.le_refl _) _
  have HP1 : Hid ((((w.alloc (.cells #[.slice (some ⟨gR, 0, none⟩) nR nR, .slice (some ⟨x1, 0, none⟩) y1 y1, .slice (some ⟨x2, 0, none⟩) y2 y2, .slice (some ⟨x3, 0, none⟩) y3 y3, .slice (some ⟨x4, 0, none⟩) y4 y4, .slice (some ⟨gA, 0, none⟩) nA nA, .slice (some ⟨gP, 0, none⟩) nP nP, .slice (some ⟨gL, 0, none⟩) nL nL, .slice (some ⟨gO, 0, none⟩) nO nO, .int .i64 tu, .bool sp, .slice (some ⟨gE, 0, none⟩) nE nE] 38)).alloc (.cells #[.int .i64 0, .int .i64 0, .slice none 0 0, .int .i64 0, .int .i64 0, .int .i64 0] 100)).alloc (.cells #[.int .i64 st, .int .i64 pc, .slice (some ⟨ba, 0, none⟩) m m, .int .i64 ss, .int .i64 en, .int .i64 la] 100)).heap[w.heap.size + 1 + 1]? = some (.cells #[.int .i64 st, .int .i64 pc, .slice (some ⟨ba, 0, none⟩) m m, .int .i64 ss, .int .i64 en, .int .i64 la] 100)) := al3_3 w _ _ _
  have HI1 : Hid ((((w.alloc (.cells #[.slice (some ⟨gR, 0, none⟩) nR nR, .slice (some ⟨x1, 0, none⟩) y1 y1, .slice (some ⟨x2, 0, none⟩) y2 y2, .slice (some ⟨x3, 0, none⟩) y3 y3, .slice (some ⟨x4, 0, none⟩) y4 y4, .slice (some ⟨gA, 0, none⟩) nA nA, .slice (some ⟨gP, 0, none⟩) nP nP, .slice (some ⟨gL, 0, none⟩) nL nL, .slice (some ⟨gO, 0, none⟩) nO nO, .int .i64 tu, .bool sp, .slice (some ⟨gE, 0, none⟩) nE nE] 38)).alloc (.cells #[.int .i64 0, .int .i64 0, .slice none 0 0, .int .i64 0, .int .i64 0, .int .i64 0] 100)).alloc (.cells #[.int .i64 st, .int .i64 pc, .slice (some ⟨ba, 0, none⟩) m m, .int .i64 ss, .int .i64 en, .int .i64 la] 100)).heap[w.heap.size]? = some (.cells #[.slice (some ⟨gR, 0, none⟩) nR nR, .slice (some ⟨x1, 0, none⟩) y1 y1, .slice (some ⟨x2, 0, none⟩) y2 y2, .slice (some ⟨x3, 0, none⟩) y3 y3, .slice (some ⟨x4, 0, none⟩) y4 y4, .slice (some ⟨gA, 0, none⟩) nA nA, .slice (some ⟨gP, 0, none⟩) nP nP, .slice (some ⟨gL, 0, none⟩) nL nL, .slice (some ⟨gO, 0, none⟩) nO nO, .int .i64 tu, .bool sp, .slice (some ⟨gE, 0, none⟩) nE nE] 38)) := row_on HI0.out hal
  have HZ1 : Hid ((((w.alloc (.cells #[.slice (some ⟨gR, 0, none⟩) nR nR, .slice (some ⟨x1, 0, none⟩) y1 y1, .slice (some ⟨x2, 0, none⟩) y2 y2, .slice (some ⟨x3, 0, none⟩) y3 y3, .slice (some ⟨x4, 0, none⟩) y4 y4, .slice (some ⟨gA, 0, none⟩) nA nA, .slice (some ⟨gP, 0, none⟩) nP nP, .slice (some ⟨gL, 0, none⟩) nL nL, .slice (some ⟨gO, 0, none⟩) nO nO, .int .i64 tu, .bool sp, .slice (some ⟨gE, 0, none⟩) nE nE] 38)).alloc (.cells #[.int .i64 0, .int .i64 0, .slice none 0 0, .int .i64 0, .int .i64 0, .int .i64 0] 100)).alloc (.cells #[.int .i64 st, .int .i64 pc, .slice (some ⟨ba, 0, none⟩) m m, .int .i64 ss, .int .i64 en, .int .i64 la] 100)).heap[w.heap.size + 1]? = some (.cells #[.int .i64 0, .int .i64 0, .slice none 0 0, .int .i64 0, .int .i64 0, .int .i64 0] 100)) := row_on HZ0.out hal
  have HB1 : Hid (Below w.heap.size w (((w.alloc (.cells #[.slice (some ⟨gR, 0, none⟩) nR nR, .slice (some ⟨x1, 0, none⟩) y1 y1, .slice (some ⟨x2, 0, none⟩) y2 y2, .slice (some ⟨x3, 0, none⟩) y3 y3, .slice (some ⟨x4, 0, none⟩) y4 y4, .slice (some ⟨gA, 0, none⟩) nA nA, .slice (some ⟨gP, 0, none⟩) nP nP, .slice (some ⟨gL, 0, none⟩) nL nL, .slice (some ⟨gO, 0, none⟩) nO nO, .int .i64 tu, .bool sp, .slice (some ⟨gE, 0, none⟩) nE nE] 38)).alloc (.cells #[.int .i64 0, .int .i64 0, .slice none 0 0, .int .i64 0, .int .i64 0, .int .i64 0] 100)).alloc (.cells #[.int .i64 st, .int .i64 pc, .slice (some ⟨ba, 0, none⟩) m m, .int .i64 ss, .int .i64 en, .int .i64 la] 100))) := bel_on (Nat.le_refl _) HB0.out hal
  go_wp2_with fail
  refine (C.copyCS (some ⟨ba, 0, none⟩) pc sk m m HM.out hsz (fun h => by cases h) _ (RS.out.keep HB1.out (Nat.le_refl _))).mono ?_
  rintro e w2 ⟨g, c, rfl, hown, hb2⟩
  have HI2 : Hid (w2.heap[w.heap.size]? = some (.cells #[.slice (some ⟨gR, 0, none⟩) nR nR, .slice (some ⟨x1, 0, none⟩) y1 y1, .slice (some ⟨x2, 0, none⟩) y2 y2, .slice (some ⟨x3, 0, none⟩) y3 y3, .slice (some ⟨x4, 0, none⟩) y4 y4, .slice (some ⟨gA, 0, none⟩) nA nA, .slice (some ⟨gP, 0, none⟩) nP nP, .slice (some ⟨gL, 0, none⟩) nL nL, .slice (some ⟨gO, 0, none⟩) nO nO, .int .i64 tu, .bool sp, .slice (some ⟨gE, 0, none⟩) nE nE] 38)) := row_on HI1.out hb2
  have HZ2 : Hid (w2.heap[w.heap.size + 1]? = some (.cells #[.int .i64 0, .int .i64 0, .slice none 0 0, .int .i64 0, .int .i64 0, .int .i64 0] 100)) := row_on HZ1.out hb2
  have HP2 : Hid (w2.heap[w.heap.size + 1 + 1]? = some (.cells #[.int .i64 st, .int .i64 pc, .slice (some ⟨ba, 0, none⟩) m m, .int .i64 ss, .int .i64 en, .int .i64 la] 100)) := row_on HP1.out hb2
  have HB2 : Hid (Below w.heap.size w w2) := bel_on (Nat.le_refl _) HB1.out hb2
  have HON : Hid (C.OwnN w2 (w.heap.size + 1 + 1 + 1) g m c sk) := hown.mono (by simp)
  clear hb2 hown HI0 HZ0 HB0 HI1 HZ1 HP1 HB1 hal cc1 cc2 cc3 cc4 cc5 cc6 k0 q1 q2
  have kp := box6_cells HP2.out
  have HGG : Hid (w.heap.size + 1 + 1 < g) := (show w.heap.size + 1 + 1 < g by have := HON.out.ge; omega)
  have HI3 : Hid (((w2.setCell ⟨w.heap.size + 1 + 1, 1, none⟩ (.int .i64 pc)).setCell ⟨w.heap.size + 1 + 1, 2, none⟩ (.slice (some ⟨g, 0, none⟩) m c)).heap[w.heap.size]? = some (.cells #[.slice (some ⟨gR, 0, none⟩) nR nR, .slice (some ⟨x1, 0, none⟩) y1 y1, .slice (some ⟨x2, 0, none⟩) y2 y2, .slice (some ⟨x3, 0, none⟩) y3 y3, .slice (some ⟨x4, 0, none⟩) y4 y4, .slice (some ⟨gA, 0, none⟩) nA nA, .slice (some ⟨gP, 0, none⟩) nP nP, .slice (some ⟨gL, 0, none⟩) nL nL, .slice (some ⟨gO, 0, none⟩) nO nO, .int .i64 tu, .bool sp, .slice (some ⟨gE, 0, none⟩) nE nE] 38)) := set_far (set_far HI2.out (by omega)) (by omega)
  have HZ3 : Hid (((w2.setCell ⟨w.heap.size + 1 + 1, 1, none⟩ (.int .i64 pc)).setCell ⟨w.heap.size + 1 + 1, 2, none⟩ (.slice (some ⟨g, 0, none⟩) m c)).heap[w.heap.size + 1]? = some (.cells #[.int .i64 0, .int .i64 0, .slice none 0 0, .int .i64 0, .int .i64 0, .int .i64 0] 100)) := set_far (set_far HZ2.out (by omega)) (by omega)
  have HP3 : Hid (((w2.setCell ⟨w.heap.size + 1 + 1, 1, none⟩ (.int .i64 pc)).setCell ⟨w.heap.size + 1 + 1, 2, none⟩ (.slice (some ⟨g, 0, none⟩) m c)).heap[w.heap.size + 1 + 1]? = some (.cells #[.int .i64 st, .int .i64 pc, .slice (some ⟨g, 0, none⟩) m c, .int .i64 ss, .int .i64 en, .int .i64 la] 100)) := set_row5 (set_row5 HP2.out 1 _) 2 _
  have HB3 : Hid (Below w.heap.size w ((w2.setCell ⟨w.heap.size + 1 + 1, 1, none⟩ (.int .i64 pc)).setCell ⟨w.heap.size + 1 + 1, 2, none⟩ (.slice (some ⟨g, 0, none⟩) m c))) := (HB2.out.setCell (show w.heap.size ≤ w.heap.size + 1 + 1 by omega) _).setCell (show w.heap.size ≤ w.heap.size + 1 + 1 by omega) _
  have HON3 : Hid (C.OwnN ((w2.setCell ⟨w.heap.size + 1 + 1, 1, none⟩ (.int .i64 pc)).setCell ⟨w.heap.size + 1 + 1, 2, none⟩ (.slice (some ⟨g, 0, none⟩) m c)) (w.heap.size + 1 + 1 + 1) g m c sk) := (HON.out.grown (grown_put _ _ _ _) (by have := HGG.out; omega)).grown (grown_put _ _ _ _) (by have := HGG.out; omega)
  clear HI2 HZ2 HP2 HB2 HON
  go_upto_region 5 with fail
  obtain ⟨w3, hw3⟩ : ∃ x, x = ((w2.setCell ⟨w.heap.size + 1 + 1, 1, none⟩ (.int .i64 pc)).setCell ⟨w.heap.size + 1 + 1, 2, none⟩ (.slice (some ⟨g, 0, none⟩) m c)) := ⟨_, rfl⟩
  rw [← hw3] at HI3 HZ3 HP3 HB3 HON3 ⊢
  clear hw3 kp
  have HRG : Hid (Rd w3 (some ⟨g, 0, none⟩) sk) := ownN_rd HON3.out
  have k3 := box12_cells HI3.out
  have kp3 := box6_cells HP3.out
  have gRl : gR < w.heap.size := World.block_lt_of_cell? w ⟨gR, j * 2, none⟩ HC.out.2.1.1
  have gOl : gO < w.heap.size := World.block_lt_of_cell? w ⟨gO, 2 * j, none⟩ HC.out.2.2.1
  have HQ : Hid (w3.cell? ⟨w.heap.size, 0, none⟩ = some (.slice (some ⟨gR, 0, none⟩) nR nR) ∧ w3.cell? ⟨w.heap.size, 5, none⟩ = some (.slice (some ⟨gA, 0, none⟩) nA nA) ∧ w3.cell? ⟨w.heap.size, 8, none⟩ = some (.slice (some ⟨gO, 0, none⟩) nO nO) ∧ w3.cell? ⟨gR, j * 2, none⟩ = some (.int .i64 f) ∧ w3.cell? ⟨gR, j * 2 + 1, none⟩ = some (.int .i64 z) ∧ w3.cell? ⟨gO, (2 * (j : Int)).toNat, none⟩ = some (.int .i64 o1) ∧ w3.cell? ⟨gO, (2 * (j : Int) + 1).toNat, none⟩ = some (.int .i64 o2) ∧ w3.cell? ⟨w.heap.size + 1 + 1, 0, none⟩ = some (.int .i64 st) ∧ w3.cell? ⟨w.heap.size + 1 + 1, 1, none⟩ = some (.int .i64 pc) ∧ w3.cell? ⟨w.heap.size + 1 + 1, 2, none⟩ = some (.slice (some ⟨g, 0, none⟩) m c) ∧ w3.cell? ⟨w.heap.size + 1 + 1, 3, none⟩ = some (.int .i64 ss) ∧ w3.cell? ⟨w.heap.size + 1 + 1, 4, none⟩ = some (.int .i64 en) ∧ w3.cell? ⟨w.heap.size + 1 + 1, 5, none⟩ = some (.int .i64 la)) := ⟨k3.1.1, k3.1.2.2.2.2.2.1, k3.1.2.2.2.2.2.2.2.2.1, cell_on HC.out.2.1.1 HB3.out, cell_on HC.out.2.1.2 HB3.out, by rw [show (2 * (j : Int)).toNat = 2 * j by omega]; exact cell_on HC.out.2.2.1 HB3.out, by rw [show (2 * (j : Int) + 1).toNat = 2 * j + 1 by omega]; exact cell_on HC.out.2.2.2 HB3.out, kp3.1.1, kp3.1.2.1, kp3.1.2.2.1, kp3.1.2.2.2.1, kp3.1.2.2.2.2.1, kp3.1.2.2.2.2.2⟩
  have HNE : Hid ((⟨w.heap.size, 0, none⟩ : Addr).block ≠ w.heap.size + 1 ∧ (⟨w.heap.size, 5, none⟩ : Addr).block ≠ w.heap.size + 1 ∧ (⟨w.heap.size, 8, none⟩ : Addr).block ≠ w.heap.size + 1 ∧ (⟨gR, j * 2, none⟩ : Addr).block ≠ w.heap.size + 1 ∧ (⟨gR, j * 2 + 1, none⟩ : Addr).block ≠ w.heap.size + 1 ∧ (⟨gO, (2 * (j : Int)).toNat, none⟩ : Addr).block ≠ w.heap.size + 1 ∧ (⟨gO, (2 * (j : Int) + 1).toNat, none⟩ : Addr).block ≠ w.heap.size + 1 ∧ (⟨w.heap.size + 1 + 1, 0, none⟩ : Addr).block ≠ w.heap.size + 1 ∧ (⟨w.heap.size + 1 + 1, 1, none⟩ : Addr).block ≠ w.heap.size + 1 ∧ (⟨w.heap.size + 1 + 1, 2, none⟩ : Addr).block ≠ w.heap.size + 1 ∧ (⟨w.heap.size + 1 + 1, 3, none⟩ : Addr).block ≠ w.heap.size + 1 ∧ (⟨w.heap.size + 1 + 1, 4, none⟩ : Addr).block ≠ w.heap.size + 1 ∧ (⟨w.heap.size + 1 + 1, 5, none⟩ : Addr).block ≠ w.heap.size + 1) := ⟨(show w.heap.size ≠ w.heap.size + 1 by omega), (show w.heap.size ≠ w.heap.size + 1 by omega), (show w.heap.size ≠ w.heap.size + 1 by omega), (show gR ≠ w.heap.size + 1 by omega), (show gR ≠ w.heap.size + 1 by omega), (show gO ≠ w.heap.size + 1 by omega), (show gO ≠ w.heap.size + 1 by omega), (show w.heap.size + 1 + 1 ≠ w.heap.size + 1 by omega), (show w.heap.size + 1 + 1 ≠ w.heap.size + 1 by omega), (show w.heap.size + 1 + 1 ≠ w.heap.size + 1 by omega), (show w.heap.size + 1 + 1 ≠ w.heap.size + 1 by omega), (show w.heap.size + 1 + 1 ≠ w.heap.size + 1 by omega), (show w.heap.size + 1 + 1 ≠ w.heap.size + 1 by omega)⟩
  have HBc : Hid (Below w3.heap.size w3 w3.drew) := (Below.refl _ _).drew
  have HBd : Hid (Below w3.heap.size w3 (w3.alloc (.cells #[.int .i64 o1, .int .i64 o2] 3)).drew) := ((Below.refl _ _).alloc (Nat.le_refl _) _).drew
  have r0 : IntKind.i64.wrap (j : Int) = j := wrap_in (by omega) (by omega)
  have r1 : IntKind.i64.wrap (2 * ((j : Int) + 1)) = 2 * ((j : Int) + 1) := wrap_in (by omega) (by omega)
  have r2 : IntKind.i64.wrap (2 * ((j : Int) + 1) - 2) = 2 * (j : Int) := by rw [show 2 * ((j : Int) + 1) - 2 = 2 * (j : Int) by omega]; exact wrap_in (by omega) (by omega)
  have r3 : IntKind.i64.wrap (2 * ((j : Int) + 1) - 1) = 2 * (j : Int) + 1 := by rw [show 2 * ((j : Int) + 1) - 1 = 2 * (j : Int) + 1 by omega]; exact wrap_in (by omega) (by omega)
  have i0 : (j : Int) < (nR : Int) := by omega
  have i1 : (0 : Int) ≤ 2 * (j : Int) := by omega
  have i2 : 2 * (j : Int) < (nO : Int) := by omega
  have i3 : (0 : Int) ≤ 2 * (j : Int) + 1 := by omega
  have i4 : 2 * (j : Int) + 1 < (nO : Int) := by omega
  go_wp2
  clear k3 kp3 q3 q5 HC
  have CS : Hid (∀ W, Below w3.heap.size w3 W → Calls Try.prog 94 #[.agg #[.slice (some ⟨gA, 0, none⟩) nA nA], .agg #[.int .i64 f, .int .i64 z]] W fun e w' => ∃ q c', e = .returned (.slice q (C.cutN nA f z) c') ∧ Rd w' q (C.ceL A f z) ∧ (∀ x, q = some x → w3.heap.size ≤ x.block) ∧ Below w3.heap.size w3 w' ∧ Below W.heap.size W w') := by
    intro W hW
    refine (C.cellsS (some ⟨gA, 0, none⟩) A nA nA f z HLA.out m1 W (RA.out.keep (bel_on (Nat.le_refl _) HB3.out hW) (Nat.le_refl _))).mono ?_
    rintro e w' ⟨v, rfl, ho, hb⟩
    obtain ⟨q, c', rfl, _, _, hrd⟩ := own_rd ho
    exact ⟨q, c', rfl, hrd, (fun x hx => by subst hx; exact Nat.le_trans hW.size (own_ge ho x.block rfl)), bel_on (Nat.le_refl _) hW hb, hb⟩
  clear RA HLA
  refine wp_region_held_drew (S := fun w' => w'.cell? ⟨w.heap.size, 0, none⟩ = some (.slice (some ⟨gR, 0, none⟩) nR nR) ∧ w'.cell? ⟨w.heap.size, 5, none⟩ = some (.slice (some ⟨gA, 0, none⟩) nA nA) ∧ w'.cell? ⟨w.heap.size, 8, none⟩ = some (.slice (some ⟨gO, 0, none⟩) nO nO) ∧ w'.cell? ⟨gR, j * 2, none⟩ = some (.int .i64 f) ∧ w'.cell? ⟨gR, j * 2 + 1, none⟩ = some (.int .i64 z) ∧ w'.cell? ⟨gO, (2 * (j : Int)).toNat, none⟩ = some (.int .i64 o1) ∧ w'.cell? ⟨gO, (2 * (j : Int) + 1).toNat, none⟩ = some (.int .i64 o2) ∧ w'.cell? ⟨w.heap.size + 1 + 1, 0, none⟩ = some (.int .i64 st) ∧ w'.cell? ⟨w.heap.size + 1 + 1, 1, none⟩ = some (.int .i64 pc) ∧ w'.cell? ⟨w.heap.size + 1 + 1, 2, none⟩ = some (.slice (some ⟨g, 0, none⟩) m c) ∧ w'.cell? ⟨w.heap.size + 1 + 1, 3, none⟩ = some (.int .i64 ss) ∧ w'.cell? ⟨w.heap.size + 1 + 1, 4, none⟩ = some (.int .i64 en) ∧ w'.cell? ⟨w.heap.size + 1 + 1, 5, none⟩ = some (.int .i64 la)) (by kernel_rfl) (t_keep HQ.out HBc.out) (fun hHeld => ?_)
  refine wpAnyH_take (i := 0) (v := ?_) rfl (by kernel_rfl) (by kernel_rfl) (by kernel_rfl) (fun _ _ _ h => h) (Or.inl ⟨by rfl, ?_⟩) (by assumption) ?_
  rotate_left
  · intro w_ hSw; go_simp <;> with_reducible rfl
  try simp only [Act.put, List.setIfInBounds_toArray, List.set_cons_zero, List.set_cons_succ, List.getElem_toArray, List.getElem_cons_zero, List.getElem_cons_succ]
  refine wpAnyH_take (i := 1) (v := ?_) rfl (by kernel_rfl) (by kernel_rfl) (by kernel_rfl) (fun _ _ _ h => h) (Or.inl ⟨by rfl, ?_⟩) (by assumption) ?_
  rotate_left
  · intro w_ hSw; go_simp <;> with_reducible rfl
  try simp only [Act.put, List.setIfInBounds_toArray, List.set_cons_zero, List.set_cons_succ, List.getElem_toArray, List.getElem_cons_zero, List.getElem_cons_succ]
  refine wpAnyH_take (i := 2) (v := ?_) rfl (by kernel_rfl) (by kernel_rfl) (by kernel_rfl) (fun _ _ _ h => h) (Or.inl ⟨by rfl, ?_⟩) (by assumption) ?_
  rotate_left
  · intro w_ hSw; go_simp <;> with_reducible rfl
  try simp only [Act.put, List.setIfInBounds_toArray, List.set_cons_zero, List.set_cons_succ, List.getElem_toArray, List.getElem_cons_zero, List.getElem_cons_succ]
  refine wpAnyH_take (i := 3) (v := ?_) rfl (by kernel_rfl) (by kernel_rfl) (by kernel_rfl) (fun _ _ _ h => h) (Or.inl ⟨by rfl, ?_⟩) (by assumption) ?_
  rotate_left
  · intro w_ hSw; go_simp <;> with_reducible rfl
  try simp only [Act.put, List.setIfInBounds_toArray, List.set_cons_zero, List.set_cons_succ, List.getElem_toArray, List.getElem_cons_zero, List.getElem_cons_succ]
  refine wpAnyH_take (i := 4) (v := ?_) rfl (by kernel_rfl) (by kernel_rfl) (by kernel_rfl) (fun _ _ _ h => h) (Or.inl ⟨by rfl, ?_⟩) (by assumption) ?_
  rotate_left
  · intro w_ hSw; go_simp <;> with_reducible rfl
  try simp only [Act.put, List.setIfInBounds_toArray, List.set_cons_zero, List.set_cons_succ, List.getElem_toArray, List.getElem_cons_zero, List.getElem_cons_succ]
  refine wpAnyH_take (i := 5) (v := ?_) rfl (by kernel_rfl) (by kernel_rfl) (by kernel_rfl) (fun _ _ _ h => h) (Or.inl ⟨by rfl, ?_⟩) (by assumption) ?_
  rotate_left
  · intro w_ hSw; go_simp <;> with_reducible rfl
  try simp only [Act.put, List.setIfInBounds_toArray, List.set_cons_zero, List.set_cons_succ, List.getElem_toArray, List.getElem_cons_zero, List.getElem_cons_succ]
  refine wpAnyH_take (i := 6) (v := ?_) rfl (by kernel_rfl) (by kernel_rfl) (by kernel_rfl) (fun _ _ _ h => h) (Or.inl ⟨by rfl, ?_⟩) (by assumption) ?_
  rotate_left
  · intro w_ hSw; go_simp <;> with_reducible rfl
  try simp only [Act.put, List.setIfInBounds_toArray, List.set_cons_zero, List.set_cons_succ, List.getElem_toArray, List.getElem_cons_zero, List.getElem_cons_succ]
  refine wpAnyH_take (i := 7) (v := ?_) rfl (by kernel_rfl) (by kernel_rfl) (by kernel_rfl) (fun _ _ _ h => h) (Or.inl ⟨by rfl, ?_⟩) (by assumption) ?_
  rotate_left
  · intro w_ hSw; go_simp <;> with_reducible rfl
  try simp only [Act.put, List.setIfInBounds_toArray, List.set_cons_zero, List.set_cons_succ, List.getElem_toArray, List.getElem_cons_zero, List.getElem_cons_succ]
  refine wpAnyH_take (i := 8) (v := ?_) rfl (by kernel_rfl) (by kernel_rfl) (by kernel_rfl) (fun _ _ _ h => h) (Or.inl ⟨by rfl, ?_⟩) (by assumption) ?_
  rotate_left
  · intro w_ hSw; go_simp <;> with_reducible rfl
  try simp only [Act.put, List.setIfInBounds_toArray, List.set_cons_zero, List.set_cons_succ, List.getElem_toArray, List.getElem_cons_zero, List.getElem_cons_succ]
  refine wpAnyH_take (i := 9) (v := ?_) rfl (by kernel_rfl) (by kernel_rfl) (by kernel_rfl) (fun _ _ _ h => h) (Or.inl ⟨by rfl, ?_⟩) (by assumption) ?_
  rotate_left
  · intro w_ hSw; go_simp <;> with_reducible rfl
  try simp only [Act.put, List.setIfInBounds_toArray, List.set_cons_zero, List.set_cons_succ, List.getElem_toArray, List.getElem_cons_zero, List.getElem_cons_succ]
  refine wpAnyH_take (i := 11) (v := ?_) rfl (by kernel_rfl) (by kernel_rfl) (by kernel_rfl) (fun _ _ _ h => h) (Or.inl ⟨by rfl, ?_⟩) (by assumption) ?_
  rotate_left
  · intro w_ hSw; go_simp <;> with_reducible rfl
  try simp only [Act.put, List.setIfInBounds_toArray, List.set_cons_zero, List.set_cons_succ, List.getElem_toArray, List.getElem_cons_zero, List.getElem_cons_succ]
  refine wpAnyH_take (i := 12) (v := ?_) rfl (by kernel_rfl) (by kernel_rfl) (by kernel_rfl) (fun _ _ _ h => h) (Or.inl ⟨by rfl, ?_⟩) (by assumption) ?_
  rotate_left
  · intro w_ hSw; go_simp <;> with_reducible rfl
  try simp only [Act.put, List.setIfInBounds_toArray, List.set_cons_zero, List.set_cons_succ, List.getElem_toArray, List.getElem_cons_zero, List.getElem_cons_succ]
  refine wpAnyH_take (i := 13) (v := ?_) rfl (by kernel_rfl) (by kernel_rfl) (by kernel_rfl) (fun _ _ _ h => h) (Or.inl ⟨by rfl, ?_⟩) (by assumption) ?_
  rotate_left
  · intro w_ hSw; go_simp <;> with_reducible rfl
  try simp only [Act.put, List.setIfInBounds_toArray, List.set_cons_zero, List.set_cons_succ, List.getElem_toArray, List.getElem_cons_zero, List.getElem_cons_succ]
  refine wpAnyH_take (i := 14) (v := ?_) rfl (by kernel_rfl) (by kernel_rfl) (by kernel_rfl) (fun _ _ _ h => h) (Or.inl ⟨by rfl, ?_⟩) (by assumption) ?_
  rotate_left
  · intro w_ hSw; go_simp <;> with_reducible rfl
  try simp only [Act.put, List.setIfInBounds_toArray, List.set_cons_zero, List.set_cons_succ, List.getElem_toArray, List.getElem_cons_zero, List.getElem_cons_succ]
  refine wpAnyH_take (i := 15) (v := ?_) rfl (by kernel_rfl) (by kernel_rfl) (by kernel_rfl) (fun _ _ _ h => h) (Or.inl ⟨by rfl, ?_⟩) (by assumption) ?_
  rotate_left
  · intro w_ hSw; go_simp <;> with_reducible rfl
  try simp only [Act.put, List.setIfInBounds_toArray, List.set_cons_zero, List.set_cons_succ, List.getElem_toArray, List.getElem_cons_zero, List.getElem_cons_succ]
  refine wpAnyH_take (i := 16) (v := ?_) rfl (by kernel_rfl) (by kernel_rfl) (by kernel_rfl) (fun _ _ _ h => h) (Or.inl ⟨by rfl, ?_⟩) (by assumption) ?_
  rotate_left
  · intro w_ hSw; go_simp <;> with_reducible rfl
  try simp only [Act.put, List.setIfInBounds_toArray, List.set_cons_zero, List.set_cons_succ, List.getElem_toArray, List.getElem_cons_zero, List.getElem_cons_succ]
  refine wpAnyH_take (i := 17) (v := ?_) rfl (by kernel_rfl) (by kernel_rfl) (by kernel_rfl) (fun _ _ _ h => h) (Or.inl ⟨by rfl, ?_⟩) (by assumption) ?_
  rotate_left
  · intro w_ hSw; go_simp <;> with_reducible rfl
  try simp only [Act.put, List.setIfInBounds_toArray, List.set_cons_zero, List.set_cons_succ, List.getElem_toArray, List.getElem_cons_zero, List.getElem_cons_succ]
  refine wpAnyH_take (i := 18) (v := ?_) rfl (by kernel_rfl) (by kernel_rfl) (by kernel_rfl) (fun _ _ _ h => h) (Or.inl ⟨by rfl, ?_⟩) (by assumption) ?_
  rotate_left
  · intro w_ hSw; go_simp <;> with_reducible rfl
  try simp only [Act.put, List.setIfInBounds_toArray, List.set_cons_zero, List.set_cons_succ, List.getElem_toArray, List.getElem_cons_zero, List.getElem_cons_succ]
  refine wpAnyH_take (i := 19) (v := ?_) rfl (by kernel_rfl) (by kernel_rfl) (by kernel_rfl) (fun _ _ _ h => h) (Or.inl ⟨by rfl, ?_⟩) (by assumption) ?_
  rotate_left
  · intro w_ hSw; go_simp <;> with_reducible rfl
  try simp only [Act.put, List.setIfInBounds_toArray, List.set_cons_zero, List.set_cons_succ, List.getElem_toArray, List.getElem_cons_zero, List.getElem_cons_succ]
  refine wpAnyH_take (i := 20) (v := ?_) rfl (by kernel_rfl) (by kernel_rfl) (by kernel_rfl) (fun _ _ _ h => h) (Or.inl ⟨by rfl, ?_⟩) (by assumption) ?_
  rotate_left
  · intro w_ hSw; go_simp <;> with_reducible rfl
  try simp only [Act.put, List.setIfInBounds_toArray, List.set_cons_zero, List.set_cons_succ, List.getElem_toArray, List.getElem_cons_zero, List.getElem_cons_succ]
  refine wpAnyH_take (i := 21) (v := ?_) rfl (by kernel_rfl) (by kernel_rfl) (by kernel_rfl) (fun _ _ _ h => h) (Or.inl ⟨by rfl, ?_⟩) (by assumption) ?_
  rotate_left
  · intro w_ hSw; go_simp <;> with_reducible rfl
  try simp only [Act.put, List.setIfInBounds_toArray, List.set_cons_zero, List.set_cons_succ, List.getElem_toArray, List.getElem_cons_zero, List.getElem_cons_succ]
  refine wpAnyH_take (i := 22) (v := ?_) rfl (by kernel_rfl) (by kernel_rfl) (by kernel_rfl) (fun _ _ _ h => h) (Or.inl ⟨by rfl, ?_⟩) (by assumption) ?_
  rotate_left
  · intro w_ hSw; go_simp <;> with_reducible rfl
  try simp only [Act.put, List.setIfInBounds_toArray, List.set_cons_zero, List.set_cons_succ, List.getElem_toArray, List.getElem_cons_zero, List.getElem_cons_succ]
  refine wpAnyH_take (i := 23) (v := ?_) rfl (by kernel_rfl) (by kernel_rfl) (by kernel_rfl) (fun _ _ _ h => h) (Or.inl ⟨by rfl, ?_⟩) (by assumption) ?_
  rotate_left
  · intro w_ hSw; go_simp <;> with_reducible rfl
  try simp only [Act.put, List.setIfInBounds_toArray, List.set_cons_zero, List.set_cons_succ, List.getElem_toArray, List.getElem_cons_zero, List.getElem_cons_succ]
  refine wpAnyH_take (i := 24) (v := ?_) rfl (by kernel_rfl) (by kernel_rfl) (by kernel_rfl) (fun _ _ _ h => h) (Or.inl ⟨by rfl, ?_⟩) (by assumption) ?_
  rotate_left
  · intro w_ hSw; go_simp <;> with_reducible rfl
  try simp only [Act.put, List.setIfInBounds_toArray, List.set_cons_zero, List.set_cons_succ, List.getElem_toArray, List.getElem_cons_zero, List.getElem_cons_succ]
  refine wpAnyH_ready (rs := [10, 25]) (by kernel_rfl) (by simp) ?_
  refine AllReadyH.cons rfl (fun K hK => ?_) (AllReadyH.cons rfl (fun K hK => ?_) (AllReadyH.nil))
  · go_simp
    go_at_call 94
    refine (CS.out _ HBc.out).mono ?_
    rintro e w5 ⟨q2, c2, rfl, hrd5, hqn, hb5, hbW⟩
    go_wp2_with fail
    refine hK.out _ _ (t_keep HQ.out hb5) (fun hHeldA => ?_)
    have HB5 : Hid (Below w3.heap.size w3 w5) := hb5
    have HR5 : Hid (Rd w5 q2 (C.ceL A f z)) := hrd5
    have HBW : Hid (Below _ _ w5) := hbW
    have RCn : Hid (∀ x, q2 = some x → x.block ≠ w.heap.size + 1) := fun x hx => by have h1 := hqn x hx; have h2 := row_lt HP3.out; omega
    clear hK K hb5 hrd5 hqn hbW
    try simp only [Act.put, List.setIfInBounds_toArray, List.set_cons_zero, List.set_cons_succ, List.getElem_toArray, List.getElem_cons_zero, List.getElem_cons_succ]
    refine wpAnyH_ready (rs := [25, 26]) (by kernel_rfl) (by simp) ?_
    refine AllReadyH.cons rfl (fun K hK => ?_) (AllReadyH.cons rfl (fun K hK => ?_) (AllReadyH.nil))
    · go_simp
      refine hK.out _ _ (t_keep HQ.out (HB5.out.alloc HB5.out.size _)) (fun hHeldB => ?_)
      clear hK K
      try simp only [Act.put, List.setIfInBounds_toArray, List.set_cons_zero, List.set_cons_succ, List.getElem_toArray, List.getElem_cons_zero, List.getElem_cons_succ]
      have HBn : Hid (w5.heap.size ≠ w.heap.size + 1) := (show w5.heap.size ≠ w.heap.size + 1 by have := row_lt HP3.out; have := HB5.out.size; omega)
      have HB6 : Hid (Below w3.heap.size w3 (w5.alloc (.cells #[.int .i64 o1, .int .i64 o2] 3))) := HB5.out.alloc HB5.out.size _
      have RG6 : Hid (Rd (w5.alloc (.cells #[.int .i64 o1, .int .i64 o2] 3)) (some ⟨g, 0, none⟩) sk) := HRG.out.keep HB6.out (Nat.le_refl _)
      have RC6 : Hid (Rd (w5.alloc (.cells #[.int .i64 o1, .int .i64 o2] 3)) q2 (C.ceL A f z)) := HR5.out.keep ((Below.refl _ _).alloc (Nat.le_refl _) _) (Nat.le_refl _)
      have RO6 : Hid (Rd (w5.alloc (.cells #[.int .i64 o1, .int .i64 o2] 3)) (some ⟨w5.heap.size, 0, none⟩) [o1, o2]) := rd_new w5 o1 o2
      have kz := box6_cells (row_on HZ3.out HB6.out)
      refine wpAnyH_ready (rs := [26]) (by kernel_rfl) (by simp) ?_
      refine AllReadyH.cons rfl (fun K hK => ?_) (AllReadyH.nil)
      go_simp
      refine hK.out _ _ (t_set6 (t_keep HQ.out HB6.out) HNE.out) (fun hHeldC => ?_)
      clear hK K
      try simp only [Act.put, List.setIfInBounds_toArray, List.set_cons_zero, List.set_cons_succ, List.getElem_toArray, List.getElem_cons_zero, List.getElem_cons_succ]
      refine wpAnyH_take (i := 27) (v := ?_) rfl (by kernel_rfl) (by kernel_rfl) (by kernel_rfl) (fun _ _ _ h => h) (Or.inl ⟨by rfl, ?_⟩) (by assumption) ?_
      rotate_left
      · intro w_ hSw; go_simp <;> with_reducible rfl
      try simp only [Act.put, List.setIfInBounds_toArray, List.set_cons_zero, List.set_cons_succ, List.getElem_toArray, List.getElem_cons_zero, List.getElem_cons_succ]
      refine wpAnyH_take (i := 28) (v := ?_) rfl (by kernel_rfl) (by kernel_rfl) (by kernel_rfl) (fun _ _ _ h => h) (Or.inl ⟨by rfl, ?_⟩) (by assumption) ?_
      rotate_left
      · intro w_ hSw; go_simp <;> with_reducible rfl
      try simp only [Act.put, List.setIfInBounds_toArray, List.set_cons_zero, List.set_cons_succ, List.getElem_toArray, List.getElem_cons_zero, List.getElem_cons_succ]
      refine wpAnyH_done (by kernel_rfl) ?_ _
      clear hHeld
      go_wp2
      refine bodyPost_ret (v := .tuple #[.agg #[.int .i64 st, .int .i64 pc, .slice (some ⟨g, 0, none⟩) m c, .int .i64 ss, .int .i64 en, .int .i64 la], .slice q2 (C.cutN nA f z) c2, .slice (some ⟨w5.heap.size, 0, none⟩) 2 2]) (by simp [results, Try.results37, go_sem, kz]) rfl ⟨some ⟨g, 0, none⟩, c, q2, c2, (some ⟨w5.heap.size, 0, none⟩), 2, rfl, ?_, ?_, ?_, ?_⟩
      · exact rd_set6 (RG6.out) (fun x hx => by cases hx; exact (show g ≠ w.heap.size + 1 by have := HGG.out; omega))
      · exact rd_set6 (RC6.out) RCn.out
      · exact rd_set6 (RO6.out) (fun x hx => by cases hx; exact HBn.out)
      · exact (((((((bel_on (Nat.le_refl _) HB3.out HB6.out)).setCell (show w.heap.size ≤ w.heap.size + 1 by omega) _).setCell (show w.heap.size ≤ w.heap.size + 1 by omega) _).setCell (show w.heap.size ≤ w.heap.size + 1 by omega) _).setCell (show w.heap.size ≤ w.heap.size + 1 by omega) _).setCell (show w.heap.size ≤ w.heap.size + 1 by omega) _).setCell (show w.heap.size ≤ w.heap.size + 1 by omega) _
    · have kz := box6_cells (row_on HZ3.out HB5.out)
      go_simp
      refine hK.out _ _ (t_set6 (t_keep HQ.out HB5.out) HNE.out) (fun hHeldC => ?_)
      clear hK K
      try simp only [Act.put, List.setIfInBounds_toArray, List.set_cons_zero, List.set_cons_succ, List.getElem_toArray, List.getElem_cons_zero, List.getElem_cons_succ]
      have HS6 : Hid (((((((w5.setCell ⟨w.heap.size + 1, 0, none⟩ (.int .i64 st)).setCell ⟨w.heap.size + 1, 1, none⟩ (.int .i64 pc)).setCell ⟨w.heap.size + 1, 2, none⟩ (.slice (some ⟨g, 0, none⟩) m c)).setCell ⟨w.heap.size + 1, 3, none⟩ (.int .i64 ss)).setCell ⟨w.heap.size + 1, 4, none⟩ (.int .i64 en)).setCell ⟨w.heap.size + 1, 5, none⟩ (.int .i64 la)).cell? ⟨w.heap.size, 0, none⟩ = some (.slice (some ⟨gR, 0, none⟩) nR nR) ∧ ((((((w5.setCell ⟨w.heap.size + 1, 0, none⟩ (.int .i64 st)).setCell ⟨w.heap.size + 1, 1, none⟩ (.int .i64 pc)).setCell ⟨w.heap.size + 1, 2, none⟩ (.slice (some ⟨g, 0, none⟩) m c)).setCell ⟨w.heap.size + 1, 3, none⟩ (.int .i64 ss)).setCell ⟨w.heap.size + 1, 4, none⟩ (.int .i64 en)).setCell ⟨w.heap.size + 1, 5, none⟩ (.int .i64 la)).cell? ⟨w.heap.size, 5, none⟩ = some (.slice (some ⟨gA, 0, none⟩) nA nA) ∧ ((((((w5.setCell ⟨w.heap.size + 1, 0, none⟩ (.int .i64 st)).setCell ⟨w.heap.size + 1, 1, none⟩ (.int .i64 pc)).setCell ⟨w.heap.size + 1, 2, none⟩ (.slice (some ⟨g, 0, none⟩) m c)).setCell ⟨w.heap.size + 1, 3, none⟩ (.int .i64 ss)).setCell ⟨w.heap.size + 1, 4, none⟩ (.int .i64 en)).setCell ⟨w.heap.size + 1, 5, none⟩ (.int .i64 la)).cell? ⟨w.heap.size, 8, none⟩ = some (.slice (some ⟨gO, 0, none⟩) nO nO) ∧ ((((((w5.setCell ⟨w.heap.size + 1, 0, none⟩ (.int .i64 st)).setCell ⟨w.heap.size + 1, 1, none⟩ (.int .i64 pc)).setCell ⟨w.heap.size + 1, 2, none⟩ (.slice (some ⟨g, 0, none⟩) m c)).setCell ⟨w.heap.size + 1, 3, none⟩ (.int .i64 ss)).setCell ⟨w.heap.size + 1, 4, none⟩ (.int .i64 en)).setCell ⟨w.heap.size + 1, 5, none⟩ (.int .i64 la)).cell? ⟨gR, j * 2, none⟩ = some (.int .i64 f) ∧ ((((((w5.setCell ⟨w.heap.size + 1, 0, none⟩ (.int .i64 st)).setCell ⟨w.heap.size + 1, 1, none⟩ (.int .i64 pc)).setCell ⟨w.heap.size + 1, 2, none⟩ (.slice (some ⟨g, 0, none⟩) m c)).setCell ⟨w.heap.size + 1, 3, none⟩ (.int .i64 ss)).setCell ⟨w.heap.size + 1, 4, none⟩ (.int .i64 en)).setCell ⟨w.heap.size + 1, 5, none⟩ (.int .i64 la)).cell? ⟨gR, j * 2 + 1, none⟩ = some (.int .i64 z) ∧ ((((((w5.setCell ⟨w.heap.size + 1, 0, none⟩ (.int .i64 st)).setCell ⟨w.heap.size + 1, 1, none⟩ (.int .i64 pc)).setCell ⟨w.heap.size + 1, 2, none⟩ (.slice (some ⟨g, 0, none⟩) m c)).setCell ⟨w.heap.size + 1, 3, none⟩ (.int .i64 ss)).setCell ⟨w.heap.size + 1, 4, none⟩ (.int .i64 en)).setCell ⟨w.heap.size + 1, 5, none⟩ (.int .i64 la)).cell? ⟨gO, (2 * (j : Int)).toNat, none⟩ = some (.int .i64 o1) ∧ ((((((w5.setCell ⟨w.heap.size + 1, 0, none⟩ (.int .i64 st)).setCell ⟨w.heap.size + 1, 1, none⟩ (.int .i64 pc)).setCell ⟨w.heap.size + 1, 2, none⟩ (.slice (some ⟨g, 0, none⟩) m c)).setCell ⟨w.heap.size + 1, 3, none⟩ (.int .i64 ss)).setCell ⟨w.heap.size + 1, 4, none⟩ (.int .i64 en)).setCell ⟨w.heap.size + 1, 5, none⟩ (.int .i64 la)).cell? ⟨gO, (2 * (j : Int) + 1).toNat, none⟩ = some (.int .i64 o2) ∧ ((((((w5.setCell ⟨w.heap.size + 1, 0, none⟩ (.int .i64 st)).setCell ⟨w.heap.size + 1, 1, none⟩ (.int .i64 pc)).setCell ⟨w.heap.size + 1, 2, none⟩ (.slice (some ⟨g, 0, none⟩) m c)).setCell ⟨w.heap.size + 1, 3, none⟩ (.int .i64 ss)).setCell ⟨w.heap.size + 1, 4, none⟩ (.int .i64 en)).setCell ⟨w.heap.size + 1, 5, none⟩ (.int .i64 la)).cell? ⟨w.heap.size + 1 + 1, 0, none⟩ = some (.int .i64 st) ∧ ((((((w5.setCell ⟨w.heap.size + 1, 0, none⟩ (.int .i64 st)).setCell ⟨w.heap.size + 1, 1, none⟩ (.int .i64 pc)).setCell ⟨w.heap.size + 1, 2, none⟩ (.slice (some ⟨g, 0, none⟩) m c)).setCell ⟨w.heap.size + 1, 3, none⟩ (.int .i64 ss)).setCell ⟨w.heap.size + 1, 4, none⟩ (.int .i64 en)).setCell ⟨w.heap.size + 1, 5, none⟩ (.int .i64 la)).cell? ⟨w.heap.size + 1 + 1, 1, none⟩ = some (.int .i64 pc) ∧ ((((((w5.setCell ⟨w.heap.size + 1, 0, none⟩ (.int .i64 st)).setCell ⟨w.heap.size + 1, 1, none⟩ (.int .i64 pc)).setCell ⟨w.heap.size + 1, 2, none⟩ (.slice (some ⟨g, 0, none⟩) m c)).setCell ⟨w.heap.size + 1, 3, none⟩ (.int .i64 ss)).setCell ⟨w.heap.size + 1, 4, none⟩ (.int .i64 en)).setCell ⟨w.heap.size + 1, 5, none⟩ (.int .i64 la)).cell? ⟨w.heap.size + 1 + 1, 2, none⟩ = some (.slice (some ⟨g, 0, none⟩) m c) ∧ ((((((w5.setCell ⟨w.heap.size + 1, 0, none⟩ (.int .i64 st)).setCell ⟨w.heap.size + 1, 1, none⟩ (.int .i64 pc)).setCell ⟨w.heap.size + 1, 2, none⟩ (.slice (some ⟨g, 0, none⟩) m c)).setCell ⟨w.heap.size + 1, 3, none⟩ (.int .i64 ss)).setCell ⟨w.heap.size + 1, 4, none⟩ (.int .i64 en)).setCell ⟨w.heap.size + 1, 5, none⟩ (.int .i64 la)).cell? ⟨w.heap.size + 1 + 1, 3, none⟩ = some (.int .i64 ss) ∧ ((((((w5.setCell ⟨w.heap.size + 1, 0, none⟩ (.int .i64 st)).setCell ⟨w.heap.size + 1, 1, none⟩ (.int .i64 pc)).setCell ⟨w.heap.size + 1, 2, none⟩ (.slice (some ⟨g, 0, none⟩) m c)).setCell ⟨w.heap.size + 1, 3, none⟩ (.int .i64 ss)).setCell ⟨w.heap.size + 1, 4, none⟩ (.int .i64 en)).setCell ⟨w.heap.size + 1, 5, none⟩ (.int .i64 la)).cell? ⟨w.heap.size + 1 + 1, 4, none⟩ = some (.int .i64 en) ∧ ((((((w5.setCell ⟨w.heap.size + 1, 0, none⟩ (.int .i64 st)).setCell ⟨w.heap.size + 1, 1, none⟩ (.int .i64 pc)).setCell ⟨w.heap.size + 1, 2, none⟩ (.slice (some ⟨g, 0, none⟩) m c)).setCell ⟨w.heap.size + 1, 3, none⟩ (.int .i64 ss)).setCell ⟨w.heap.size + 1, 4, none⟩ (.int .i64 en)).setCell ⟨w.heap.size + 1, 5, none⟩ (.int .i64 la)).cell? ⟨w.heap.size + 1 + 1, 5, none⟩ = some (.int .i64 la)) := t_set6 (t_keep HQ.out HB5.out) HNE.out
      have RG6 : Hid (Rd ((((((w5.setCell ⟨w.heap.size + 1, 0, none⟩ (.int .i64 st)).setCell ⟨w.heap.size + 1, 1, none⟩ (.int .i64 pc)).setCell ⟨w.heap.size + 1, 2, none⟩ (.slice (some ⟨g, 0, none⟩) m c)).setCell ⟨w.heap.size + 1, 3, none⟩ (.int .i64 ss)).setCell ⟨w.heap.size + 1, 4, none⟩ (.int .i64 en)).setCell ⟨w.heap.size + 1, 5, none⟩ (.int .i64 la)) (some ⟨g, 0, none⟩) sk) := rd_set6 (HRG.out.keep HB5.out (Nat.le_refl _)) (fun x hx => by cases hx; exact (show g ≠ w.heap.size + 1 by have := HGG.out; omega))
      have RC6 : Hid (Rd ((((((w5.setCell ⟨w.heap.size + 1, 0, none⟩ (.int .i64 st)).setCell ⟨w.heap.size + 1, 1, none⟩ (.int .i64 pc)).setCell ⟨w.heap.size + 1, 2, none⟩ (.slice (some ⟨g, 0, none⟩) m c)).setCell ⟨w.heap.size + 1, 3, none⟩ (.int .i64 ss)).setCell ⟨w.heap.size + 1, 4, none⟩ (.int .i64 en)).setCell ⟨w.heap.size + 1, 5, none⟩ (.int .i64 la)) q2 (C.ceL A f z)) := rd_set6 HR5.out RCn.out
      have BW6 : Hid (Below w.heap.size w ((((((w5.setCell ⟨w.heap.size + 1, 0, none⟩ (.int .i64 st)).setCell ⟨w.heap.size + 1, 1, none⟩ (.int .i64 pc)).setCell ⟨w.heap.size + 1, 2, none⟩ (.slice (some ⟨g, 0, none⟩) m c)).setCell ⟨w.heap.size + 1, 3, none⟩ (.int .i64 ss)).setCell ⟨w.heap.size + 1, 4, none⟩ (.int .i64 en)).setCell ⟨w.heap.size + 1, 5, none⟩ (.int .i64 la))) := (((((((bel_on (Nat.le_refl _) HB3.out HB5.out)).setCell (show w.heap.size ≤ w.heap.size + 1 by omega) _).setCell (show w.heap.size ≤ w.heap.size + 1 by omega) _).setCell (show w.heap.size ≤ w.heap.size + 1 by omega) _).setCell (show w.heap.size ≤ w.heap.size + 1 by omega) _).setCell (show w.heap.size ≤ w.heap.size + 1 by omega) _).setCell (show w.heap.size ≤ w.heap.size + 1 by omega) _
      have HZ6 : Hid (((((((w5.setCell ⟨w.heap.size + 1, 0, none⟩ (.int .i64 st)).setCell ⟨w.heap.size + 1, 1, none⟩ (.int .i64 pc)).setCell ⟨w.heap.size + 1, 2, none⟩ (.slice (some ⟨g, 0, none⟩) m c)).setCell ⟨w.heap.size + 1, 3, none⟩ (.int .i64 ss)).setCell ⟨w.heap.size + 1, 4, none⟩ (.int .i64 en)).setCell ⟨w.heap.size + 1, 5, none⟩ (.int .i64 la)).heap[w.heap.size + 1]? = some (.cells #[.int .i64 st, .int .i64 pc, .slice (some ⟨g, 0, none⟩) m c, .int .i64 ss, .int .i64 en, .int .i64 la] 100)) := set_row5 (set_row5 (set_row5 (set_row5 (set_row5 (set_row5 (row_on HZ3.out HB5.out) 0 _) 1 _) 2 _) 3 _) 4 _) 5 _
      obtain ⟨w6, hw6⟩ : ∃ x, x = ((((((w5.setCell ⟨w.heap.size + 1, 0, none⟩ (.int .i64 st)).setCell ⟨w.heap.size + 1, 1, none⟩ (.int .i64 pc)).setCell ⟨w.heap.size + 1, 2, none⟩ (.slice (some ⟨g, 0, none⟩) m c)).setCell ⟨w.heap.size + 1, 3, none⟩ (.int .i64 ss)).setCell ⟨w.heap.size + 1, 4, none⟩ (.int .i64 en)).setCell ⟨w.heap.size + 1, 5, none⟩ (.int .i64 la)) := ⟨_, rfl⟩
      rw [← hw6] at HS6 RG6 RC6 BW6 HZ6 hHeldC ⊢
      clear hw6 kz HBW
      refine wpAnyH_take (i := 27) (v := ?_) rfl (by kernel_rfl) (by kernel_rfl) (by kernel_rfl) (fun _ _ _ h => h) (Or.inl ⟨by rfl, ?_⟩) (by assumption) ?_
      rotate_left
      · intro w_ hSw; go_simp <;> with_reducible rfl
      try simp only [Act.put, List.setIfInBounds_toArray, List.set_cons_zero, List.set_cons_succ, List.getElem_toArray, List.getElem_cons_zero, List.getElem_cons_succ]
      refine wpAnyH_ready (rs := [25]) (by kernel_rfl) (by simp) ?_
      refine AllReadyH.cons rfl (fun K hK => ?_) (AllReadyH.nil)
      go_simp
      refine hK.out _ _ (t_keep HS6.out ((Below.refl _ _).alloc (Nat.le_refl _) _)) (fun hHeldB => ?_)
      clear hK K
      try simp only [Act.put, List.setIfInBounds_toArray, List.set_cons_zero, List.set_cons_succ, List.getElem_toArray, List.getElem_cons_zero, List.getElem_cons_succ]
      have hal6 : Below w6.heap.size w6 (w6.alloc (.cells #[.int .i64 o1, .int .i64 o2] 3)) := (Below.refl _ _).alloc (Nat.le_refl _) _
      have kz := box6_cells (row_on HZ6.out hal6)
      have RG7 : Hid (Rd (w6.alloc (.cells #[.int .i64 o1, .int .i64 o2] 3)) (some ⟨g, 0, none⟩) sk) := RG6.out.keep hal6 (Nat.le_refl _)
      have RC7 : Hid (Rd (w6.alloc (.cells #[.int .i64 o1, .int .i64 o2] 3)) q2 (C.ceL A f z)) := RC6.out.keep hal6 (Nat.le_refl _)
      have BW7 : Hid (Below w.heap.size w (w6.alloc (.cells #[.int .i64 o1, .int .i64 o2] 3))) := bel_on (Nat.le_refl _) BW6.out hal6
      clear hal6
      refine wpAnyH_take (i := 28) (v := ?_) rfl (by kernel_rfl) (by kernel_rfl) (by kernel_rfl) (fun _ _ _ h => h) (Or.inl ⟨by rfl, ?_⟩) (by assumption) ?_
      rotate_left
      · intro w_ hSw; go_simp <;> with_reducible rfl
      try simp only [Act.put, List.setIfInBounds_toArray, List.set_cons_zero, List.set_cons_succ, List.getElem_toArray, List.getElem_cons_zero, List.getElem_cons_succ]
      refine wpAnyH_done (by kernel_rfl) ?_ _
      clear hHeld
      go_wp2
      refine bodyPost_ret (v := .tuple #[.agg #[.int .i64 st, .int .i64 pc, .slice (some ⟨g, 0, none⟩) m c, .int .i64 ss, .int .i64 en, .int .i64 la], .slice q2 (C.cutN nA f z) c2, .slice (some ⟨w6.heap.size, 0, none⟩) 2 2]) (by simp [results, Try.results37, go_sem, kz]) rfl ⟨some ⟨g, 0, none⟩, c, q2, c2, some ⟨w6.heap.size, 0, none⟩, 2, rfl, RG7.out, RC7.out, rd_new w6 o1 o2, BW7.out⟩
  · go_simp
    refine hK.out _ _ (t_keep HQ.out HBd.out) (fun hHeldB => ?_)
    clear hK K
    try simp only [Act.put, List.setIfInBounds_toArray, List.set_cons_zero, List.set_cons_succ, List.getElem_toArray, List.getElem_cons_zero, List.getElem_cons_succ]
    refine wpAnyH_ready (rs := [10]) (by kernel_rfl) (by simp) ?_
    refine AllReadyH.cons rfl (fun K hK => ?_) (AllReadyH.nil)
    go_simp
    go_at_call 94
    refine (CS.out _ HBd.out).mono ?_
    rintro e w5 ⟨q2, c2, rfl, hrd5, hqn, hb5, hbW⟩
    go_wp2_with fail
    refine hK.out _ _ (t_keep HQ.out hb5) (fun hHeldA => ?_)
    have HB5 : Hid (Below w3.heap.size w3 w5) := hb5
    have HR5 : Hid (Rd w5 q2 (C.ceL A f z)) := hrd5
    have HBW : Hid (Below _ _ w5) := hbW
    have RCn : Hid (∀ x, q2 = some x → x.block ≠ w.heap.size + 1) := fun x hx => by have h1 := hqn x hx; have h2 := row_lt HP3.out; omega
    clear hK K hb5 hrd5 hqn hbW
    try simp only [Act.put, List.setIfInBounds_toArray, List.set_cons_zero, List.set_cons_succ, List.getElem_toArray, List.getElem_cons_zero, List.getElem_cons_succ]
    have HBn : Hid (w3.heap.size ≠ w.heap.size + 1) := (show w3.heap.size ≠ w.heap.size + 1 by have := row_lt HP3.out; omega)
    have HB6 : Hid (Below w3.heap.size w3 w5) := HB5.out
    have RG6 : Hid (Rd w5 (some ⟨g, 0, none⟩) sk) := HRG.out.keep HB6.out (Nat.le_refl _)
    have RC6 : Hid (Rd w5 q2 (C.ceL A f z)) := HR5.out
    have RO6 : Hid (Rd w5 (some ⟨w3.heap.size, 0, none⟩) [o1, o2]) := (rd_new w3 o1 o2).keep (undrew' HBW.out) (Nat.le_refl _)
    have kz := box6_cells (row_on HZ3.out HB6.out)
    refine wpAnyH_ready (rs := [26]) (by kernel_rfl) (by simp) ?_
    refine AllReadyH.cons rfl (fun K hK => ?_) (AllReadyH.nil)
    go_simp
    refine hK.out _ _ (t_set6 (t_keep HQ.out HB6.out) HNE.out) (fun hHeldC => ?_)
    clear hK K
    try simp only [Act.put, List.setIfInBounds_toArray, List.set_cons_zero, List.set_cons_succ, List.getElem_toArray, List.getElem_cons_zero, List.getElem_cons_succ]
    refine wpAnyH_take (i := 27) (v := ?_) rfl (by kernel_rfl) (by kernel_rfl) (by kernel_rfl) (fun _ _ _ h => h) (Or.inl ⟨by rfl, ?_⟩) (by assumption) ?_
    rotate_left
    · intro w_ hSw; go_simp <;> with_reducible rfl
    try simp only [Act.put, List.setIfInBounds_toArray, List.set_cons_zero, List.set_cons_succ, List.getElem_toArray, List.getElem_cons_zero, List.getElem_cons_succ]
    refine wpAnyH_take (i := 28) (v := ?_) rfl (by kernel_rfl) (by kernel_rfl) (by kernel_rfl) (fun _ _ _ h => h) (Or.inl ⟨by rfl, ?_⟩) (by assumption) ?_
    rotate_left
    · intro w_ hSw; go_simp <;> with_reducible rfl
    try simp only [Act.put, List.setIfInBounds_toArray, List.set_cons_zero, List.set_cons_succ, List.getElem_toArray, List.getElem_cons_zero, List.getElem_cons_succ]
    refine wpAnyH_done (by kernel_rfl) ?_ _
    clear hHeld
    go_wp2
    refine bodyPost_ret (v := .tuple #[.agg #[.int .i64 st, .int .i64 pc, .slice (some ⟨g, 0, none⟩) m c, .int .i64 ss, .int .i64 en, .int .i64 la], .slice q2 (C.cutN nA f z) c2, .slice (some ⟨w3.heap.size, 0, none⟩) 2 2]) (by simp [results, Try.results37, go_sem, kz]) rfl ⟨some ⟨g, 0, none⟩, c, q2, c2, (some ⟨w3.heap.size, 0, none⟩), 2, rfl, ?_, ?_, ?_, ?_⟩
    · exact rd_set6 (RG6.out) (fun x hx => by cases hx; exact (show g ≠ w.heap.size + 1 by have := HGG.out; omega))
    · exact rd_set6 (RC6.out) RCn.out
    · exact rd_set6 (RO6.out) (fun x hx => by cases hx; exact HBn.out)
    · exact (((((((bel_on (Nat.le_refl _) HB3.out HB6.out)).setCell (show w.heap.size ≤ w.heap.size + 1 by omega) _).setCell (show w.heap.size ≤ w.heap.size + 1 by omega) _).setCell (show w.heap.size ≤ w.heap.size + 1 by omega) _).setCell (show w.heap.size ≤ w.heap.size + 1 by omega) _).setCell (show w.heap.size ≤ w.heap.size + 1 by omega) _).setCell (show w.heap.size ≤ w.heap.size + 1 by omega) _
end Go.Proofs.Ytfdhcchakoldpaa
