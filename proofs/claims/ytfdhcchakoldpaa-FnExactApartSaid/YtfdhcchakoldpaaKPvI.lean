/-
  The program's PartView.
-/
import Derived.Test.YtfdhcchakoldpaaKPv
namespace Go.Proofs.Ytfdhcchakoldpaa
open Go.ChangeShapes Go.WideShapes Go.ChangeAt Go.RowKit Go.PlainAid
set_option linter.unusedVariables false

/-- where the answers of PartView lie -/
structure ViewR (w : World) (lo : Nat) (g gc go : Nat) (sk cl ol : List Int) : Prop where
  b0 : lo ≤ g
  b1 : lo ≤ gc
  b2 : lo ≤ go
  d1 : g ≠ gc
  d2 : g ≠ go
  d3 : gc ≠ go
  r : RowAt w g sk
  rc : RowAt w gc cl
  ro : RowAt w go ol
theorem rd_cut2 {w : World} {g off j : Nat} {l : List Int} (hc : ∀ i (h : i < l.length), w.cell? ⟨g, off + i, none⟩ = some (.int .i64 l[i])) (h : 2 * (j + 1) ≤ l.length) : Rd w (some ⟨g, off + 2 * j, none⟩) [l[2 * j]'(by omega), l[2 * j + 1]'(by omega)] := fun _ => by
  refine ⟨g, off + 2 * j, rfl, fun i hi => ?_⟩
  have hi2 : i = 0 ∨ i = 1 := by simp at hi; omega
  rcases hi2 with rfl | rfl
  · exact hc (2 * j) (by omega)
  · exact hc (2 * j + 1) (by omega)
theorem keep4 {w W W' : World} {a b c d : Addr} {x y z u : Value} (hb : Below W.heap.size W W') (h : W.cell? a = some x ∧ W.cell? b = some y ∧ W.cell? c = some z ∧ W.cell? d = some u ∧ Below w.heap.size w W) : W'.cell? a = some x ∧ W'.cell? b = some y ∧ W'.cell? c = some z ∧ W'.cell? d = some u ∧ Below w.heap.size w W' :=
  ⟨cell_on h.1 hb, cell_on h.2.1 hb, cell_on h.2.2.1 hb, cell_on h.2.2.2.1 hb, bel_on (Nat.le_refl _) h.2.2.2.2 hb⟩
theorem drew4 {w W : World} {a b c d : Addr} {x y z u : Value} (h : W.cell? a = some x ∧ W.cell? b = some y ∧ W.cell? c = some z ∧ W.cell? d = some u ∧ Below w.heap.size w W) : W.drew.cell? a = some x ∧ W.drew.cell? b = some y ∧ W.drew.cell? c = some z ∧ W.drew.cell? d = some u ∧ Below w.heap.size w W.drew :=
  ⟨h.1, h.2.1, h.2.2.1, h.2.2.2.1, h.2.2.2.2.drew⟩
theorem bel4 {w W : World} {p0 p1 p2 p3 : Prop} (h : p0 ∧ p1 ∧ p2 ∧ p3 ∧ Below w.heap.size w W) : Below w.heap.size w W := h.2.2.2.2
theorem e8_keep {W W' : World} {p0 p1 p2 p3 p4 p5 p6 p7 : Addr} {v0 v1 v2 v3 v4 v5 v6 v7 : Value} (h : W.cell? p0 = some v0 ∧ W.cell? p1 = some v1 ∧ W.cell? p2 = some v2 ∧ W.cell? p3 = some v3 ∧ W.cell? p4 = some v4 ∧ W.cell? p5 = some v5 ∧ W.cell? p6 = some v6 ∧ W.cell? p7 = some v7) (hb : Below W.heap.size W W') : W'.cell? p0 = some v0 ∧ W'.cell? p1 = some v1 ∧ W'.cell? p2 = some v2 ∧ W'.cell? p3 = some v3 ∧ W'.cell? p4 = some v4 ∧ W'.cell? p5 = some v5 ∧ W'.cell? p6 = some v6 ∧ W'.cell? p7 = some v7 :=
  ⟨cell_on (h.1) hb, cell_on (h.2.1) hb, cell_on (h.2.2.1) hb, cell_on (h.2.2.2.1) hb, cell_on (h.2.2.2.2.1) hb, cell_on (h.2.2.2.2.2.1) hb, cell_on (h.2.2.2.2.2.2.1) hb, cell_on (h.2.2.2.2.2.2.2) hb⟩
theorem put_cell {W : World} {p : Addr} {r i : Nat} {v x : Value} (h : W.cell? p = some x) (hne : p.block ≠ r) : (W.setCell ⟨r, i, none⟩ v).cell? p = some x := by
  rw [← h]
  unfold World.cell?
  rw [Below.heap_setCell _ _ _ _ hne]
theorem e8_set {W : World} {p0 p1 p2 p3 p4 p5 p6 p7 : Addr} {v0 v1 v2 v3 v4 v5 v6 v7 : Value} {r i : Nat} {v : Value} (h : W.cell? p0 = some v0 ∧ W.cell? p1 = some v1 ∧ W.cell? p2 = some v2 ∧ W.cell? p3 = some v3 ∧ W.cell? p4 = some v4 ∧ W.cell? p5 = some v5 ∧ W.cell? p6 = some v6 ∧ W.cell? p7 = some v7) (hne : p0.block ≠ r ∧ p1.block ≠ r ∧ p2.block ≠ r ∧ p3.block ≠ r ∧ p4.block ≠ r ∧ p5.block ≠ r ∧ p6.block ≠ r ∧ p7.block ≠ r) : (W.setCell ⟨r, i, none⟩ v).cell? p0 = some v0 ∧ (W.setCell ⟨r, i, none⟩ v).cell? p1 = some v1 ∧ (W.setCell ⟨r, i, none⟩ v).cell? p2 = some v2 ∧ (W.setCell ⟨r, i, none⟩ v).cell? p3 = some v3 ∧ (W.setCell ⟨r, i, none⟩ v).cell? p4 = some v4 ∧ (W.setCell ⟨r, i, none⟩ v).cell? p5 = some v5 ∧ (W.setCell ⟨r, i, none⟩ v).cell? p6 = some v6 ∧ (W.setCell ⟨r, i, none⟩ v).cell? p7 = some v7 :=
  ⟨put_cell (h.1) hne.1, put_cell (h.2.1) hne.2.1, put_cell (h.2.2.1) hne.2.2.1, put_cell (h.2.2.2.1) hne.2.2.2.1, put_cell (h.2.2.2.2.1) hne.2.2.2.2.1, put_cell (h.2.2.2.2.2.1) hne.2.2.2.2.2.1, put_cell (h.2.2.2.2.2.2.1) hne.2.2.2.2.2.2.1, put_cell (h.2.2.2.2.2.2.2) hne.2.2.2.2.2.2.2⟩
theorem e8_set6 {W : World} {p0 p1 p2 p3 p4 p5 p6 p7 : Addr} {v0 v1 v2 v3 v4 v5 v6 v7 : Value} {r : Nat} {x0 x1 x2 x3 x4 x5 : Value} (h : W.cell? p0 = some v0 ∧ W.cell? p1 = some v1 ∧ W.cell? p2 = some v2 ∧ W.cell? p3 = some v3 ∧ W.cell? p4 = some v4 ∧ W.cell? p5 = some v5 ∧ W.cell? p6 = some v6 ∧ W.cell? p7 = some v7) (hne : p0.block ≠ r ∧ p1.block ≠ r ∧ p2.block ≠ r ∧ p3.block ≠ r ∧ p4.block ≠ r ∧ p5.block ≠ r ∧ p6.block ≠ r ∧ p7.block ≠ r) : ((((((W.setCell ⟨r, 0, none⟩ x0).setCell ⟨r, 1, none⟩ x1).setCell ⟨r, 2, none⟩ x2).setCell ⟨r, 3, none⟩ x3).setCell ⟨r, 4, none⟩ x4).setCell ⟨r, 5, none⟩ x5).cell? p0 = some v0 ∧ ((((((W.setCell ⟨r, 0, none⟩ x0).setCell ⟨r, 1, none⟩ x1).setCell ⟨r, 2, none⟩ x2).setCell ⟨r, 3, none⟩ x3).setCell ⟨r, 4, none⟩ x4).setCell ⟨r, 5, none⟩ x5).cell? p1 = some v1 ∧ ((((((W.setCell ⟨r, 0, none⟩ x0).setCell ⟨r, 1, none⟩ x1).setCell ⟨r, 2, none⟩ x2).setCell ⟨r, 3, none⟩ x3).setCell ⟨r, 4, none⟩ x4).setCell ⟨r, 5, none⟩ x5).cell? p2 = some v2 ∧ ((((((W.setCell ⟨r, 0, none⟩ x0).setCell ⟨r, 1, none⟩ x1).setCell ⟨r, 2, none⟩ x2).setCell ⟨r, 3, none⟩ x3).setCell ⟨r, 4, none⟩ x4).setCell ⟨r, 5, none⟩ x5).cell? p3 = some v3 ∧ ((((((W.setCell ⟨r, 0, none⟩ x0).setCell ⟨r, 1, none⟩ x1).setCell ⟨r, 2, none⟩ x2).setCell ⟨r, 3, none⟩ x3).setCell ⟨r, 4, none⟩ x4).setCell ⟨r, 5, none⟩ x5).cell? p4 = some v4 ∧ ((((((W.setCell ⟨r, 0, none⟩ x0).setCell ⟨r, 1, none⟩ x1).setCell ⟨r, 2, none⟩ x2).setCell ⟨r, 3, none⟩ x3).setCell ⟨r, 4, none⟩ x4).setCell ⟨r, 5, none⟩ x5).cell? p5 = some v5 ∧ ((((((W.setCell ⟨r, 0, none⟩ x0).setCell ⟨r, 1, none⟩ x1).setCell ⟨r, 2, none⟩ x2).setCell ⟨r, 3, none⟩ x3).setCell ⟨r, 4, none⟩ x4).setCell ⟨r, 5, none⟩ x5).cell? p6 = some v6 ∧ ((((((W.setCell ⟨r, 0, none⟩ x0).setCell ⟨r, 1, none⟩ x1).setCell ⟨r, 2, none⟩ x2).setCell ⟨r, 3, none⟩ x3).setCell ⟨r, 4, none⟩ x4).setCell ⟨r, 5, none⟩ x5).cell? p7 = some v7 :=
  e8_set (e8_set (e8_set (e8_set (e8_set (e8_set h hne) hne) hne) hne) hne) hne
theorem undrew' {W W' : World} (h : Below W.drew.heap.size W.drew W') : Below W.heap.size W W' := ((Below.refl W.heap.size W).drew).trans h
set_option maxRecDepth 100000 in
set_option maxHeartbeats 4000000 in
theorem viewI (k : KH) (K : KX) (j : Nat) (hh : HasP K.P.length k.s.n0 K.O.length ((j : Int) + 1)) (hjP : j < K.P.length) (hjR : j < K.X.R.length) (hjO : 2 * (j + 1) ≤ K.O.length) (w : World) (h : RdK w k K) (hs : SmK k K) :
    Calls Try.prog 91 #[KerV k K, .int .i64 ((j : Int) + 1)] w fun e w' => ∃ g gc go, e = .returned (.tuple #[.agg #[.int .i64 K.P[j].st, .int .i64 K.P[j].pc, .slice (some ⟨g, 0, none⟩) K.P[j].sk.length K.P[j].sk.length, .int .i64 K.P[j].ss, .int .i64 K.P[j].en, .int .i64 K.P[j].la], .slice (some ⟨gc, 0, none⟩) (C.cutN K.A.length K.X.R[j].1 K.X.R[j].2) (C.cutN K.A.length K.X.R[j].1 K.X.R[j].2), .slice (some ⟨go, 0, none⟩) 2 2]) ∧ ViewR w' w.heap.size g gc go K.P[j].sk (C.ceL K.A K.X.R[j].1 K.X.R[j].2) [K.O[2 * j]'(by omega), K.O[2 * j + 1]'(by omega)] ∧ Below w.heap.size w w' := by
  obtain ⟨s, qA, cA, qP, cP, qL, cL, qO, cO, qE, cE⟩ := k
  obtain ⟨X, A, P, L, O, tu, sp, E⟩ := K
  have HX : Hid (RdK w ⟨s, qA, cA, qP, cP, qL, cL, qO, cO, qE, cE⟩ ⟨X, A, P, L, O, tu, sp, E⟩) := h
  have HS : Hid (SmK ⟨s, qA, cA, qP, cP, qL, cL, qO, cO, qE, cE⟩ ⟨X, A, P, L, O, tu, sp, E⟩) := hs
  dsimp only at hh hjP hjR hjO ⊢
  obtain ⟨nA, hA⟩ : ∃ n, A.length = n := ⟨_, rfl⟩
  obtain ⟨nP, hP⟩ : ∃ n, P.length = n := ⟨_, rfl⟩
  obtain ⟨nL, hL⟩ : ∃ n, L.length = n := ⟨_, rfl⟩
  obtain ⟨nO, hO⟩ : ∃ n, O.length = n := ⟨_, rfl⟩
  obtain ⟨nE, hE⟩ : ∃ n, E.length = n := ⟨_, rfl⟩
  have HNA : Hid (A.length = nA) := hA
  have HNP : Hid (P.length = nP) := hP
  have HNL : Hid (L.length = nL) := hL
  have HNO : Hid (O.length = nO) := hO
  have HNE : Hid (E.length = nE) := hE
  have mA : nA ≤ 1048576 := by rw [← hA]; exact hs.a
  have mP : nP ≤ 1048576 := by rw [← hP]; exact hs.p
  have mO : nO ≤ 1048576 := by rw [← hO]; exact hs.o
  have m0 : s.n0 ≤ 1048576 := hs.x.n0
  have cA' : nA ≤ cA := by rw [← hA]; exact h.ca
  have cO' : nO ≤ cO := by rw [← hO]; exact h.co
  have hR0 : X.R.length = s.n0 := h.x.l0
  obtain ⟨gR, oR, eR, cR⟩ := h.x.r0 (by show 0 < X.R.length; omega)
  obtain ⟨gP, oP, eP, cP0⟩ := h.p (by show 0 < P.length; omega)
  obtain ⟨gO, oO, eO, cO0⟩ := h.o (by show 0 < O.length; omega)
  have hcR := cR j hjR
  have hcP := cP0 j hjP
  have hOc := rd_cut2 cO0 (j := j) hjO
  have hsz := hs.ps j hjP
  dsimp only at hcR hcP hOc hsz eR eP eO
  obtain ⟨Q, hQ⟩ : ∃ Q, P[j] = Q := ⟨_, rfl⟩
  obtain ⟨f, hf⟩ : ∃ f, X.R[j].1 = f := ⟨_, rfl⟩
  obtain ⟨z, hz⟩ : ∃ z, X.R[j].2 = z := ⟨_, rfl⟩
  obtain ⟨o1, ho1⟩ : ∃ x, O[2 * j]'(by omega) = x := ⟨_, rfl⟩
  obtain ⟨o2, ho2⟩ : ∃ x, O[2 * j + 1]'(by omega) = x := ⟨_, rfl⟩
  rw [hQ] at hcP hsz ⊢
  rw [hf, hz] at hcR ⊢
  rw [ho1, ho2] at hOc ⊢
  obtain ⟨st, pc, sk, ss, en, la⟩ := Q
  obtain ⟨c0, c1, ⟨ba, ca, c2, _, rs⟩, c3, c4, c5⟩ := hcP
  dsimp only at c0 c1 c2 c3 c4 c5 rs hsz ⊢
  obtain ⟨m, hm⟩ : ∃ m, sk.length = m := ⟨_, rfl⟩
  rw [hm] at c2 hsz ⊢
  have HM : Hid (sk.length = m) := hm
  have RS : Hid (Rd w ba sk) := rs
  have RO : Hid (Rd w (some ⟨gO, oO + 2 * j, none⟩) [o1, o2]) := hOc
  have RA : Hid (Rd w qA A) := h.a
  unfold KerV
  dsimp only
  rw [hA, hP, hL, hO, hE]
  subst eP eO
  rw [hP, hO] at hh
  have HH : Hid (HasP nP s.n0 nO ((j : Int) + 1)) := hh
  have HI0 : Hid (((w.alloc (.cells #[.slice s.q0 s.n0 s.c0, .slice s.q1 s.n1 s.c1, .slice s.q2 s.n2 s.c2, .slice s.q3 s.n3 s.c3, .slice s.q4 s.n4 s.c4, .slice qA nA cA, .slice (some ⟨gP, oP, none⟩) nP cP, .slice qL nL cL, .slice (some ⟨gO, oO, none⟩) nO cO, .int .i64 tu, .bool sp, .slice qE nE cE] 38)).alloc (.cells #[.int .i64 0, .int .i64 0, .slice none 0 0, .int .i64 0, .int .i64 0, .int .i64 0] 100)).heap[w.heap.size]? = some (.cells #[.slice s.q0 s.n0 s.c0, .slice s.q1 s.n1 s.c1, .slice s.q2 s.n2 s.c2, .slice s.q3 s.n3 s.c3, .slice s.q4 s.n4 s.c4, .slice qA nA cA, .slice (some ⟨gP, oP, none⟩) nP cP, .slice qL nL cL, .slice (some ⟨gO, oO, none⟩) nO cO, .int .i64 tu, .bool sp, .slice qE nE cE] 38)) := al2_1 w _ _
  have HZ0 : Hid (((w.alloc (.cells #[.slice s.q0 s.n0 s.c0, .slice s.q1 s.n1 s.c1, .slice s.q2 s.n2 s.c2, .slice s.q3 s.n3 s.c3, .slice s.q4 s.n4 s.c4, .slice qA nA cA, .slice (some ⟨gP, oP, none⟩) nP cP, .slice qL nL cL, .slice (some ⟨gO, oO, none⟩) nO cO, .int .i64 tu, .bool sp, .slice qE nE cE] 38)).alloc (.cells #[.int .i64 0, .int .i64 0, .slice none 0 0, .int .i64 0, .int .i64 0, .int .i64 0] 100)).heap[w.heap.size + 1]? = some (.cells #[.int .i64 0, .int .i64 0, .slice none 0 0, .int .i64 0, .int .i64 0, .int .i64 0] 100)) := al2_2 w _ _
  have HB0 : Hid (Below w.heap.size w ((w.alloc (.cells #[.slice s.q0 s.n0 s.c0, .slice s.q1 s.n1 s.c1, .slice s.q2 s.n2 s.c2, .slice s.q3 s.n3 s.c3, .slice s.q4 s.n4 s.c4, .slice qA nA cA, .slice (some ⟨gP, oP, none⟩) nP cP, .slice qL nL cL, .slice (some ⟨gO, oO, none⟩) nO cO, .int .i64 tu, .bool sp, .slice qE nE cE] 38)).alloc (.cells #[.int .i64 0, .int .i64 0, .slice none 0 0, .int .i64 0, .int .i64 0, .int .i64 0] 100))) := al2_b w _ _
  have jO : 2 * (j + 1) ≤ nO := by omega
  have jR : j < s.n0 := by omega
  have jP : j < nP := by omega
  have CC : Hid (w.cell? ⟨gR, oR + j * 2, none⟩ = some (.int .i64 f) ∧ w.cell? ⟨gR, oR + j * 2 + 1, none⟩ = some (.int .i64 z)) := hcR
  have CP6 : Hid (w.cell? ⟨gP, oP + j * 6, none⟩ = some (.int .i64 st) ∧ w.cell? ⟨gP, oP + j * 6 + 1, none⟩ = some (.int .i64 pc) ∧ w.cell? ⟨gP, oP + j * 6 + 2, none⟩ = some (.slice ba m ca) ∧ w.cell? ⟨gP, oP + j * 6 + 3, none⟩ = some (.int .i64 ss) ∧ w.cell? ⟨gP, oP + j * 6 + 4, none⟩ = some (.int .i64 en) ∧ w.cell? ⟨gP, oP + j * 6 + 5, none⟩ = some (.int .i64 la)) := ⟨c0, c1, c2, c3, c4, c5⟩
  have HER : Hid (s.q0 = some ⟨gR, oR, none⟩) := eR
  have HLA : Hid (A.length = nA) := hA
  clear h hs hA hP hL hO hE cR cP0 cO0 hcR hOc c0 c1 c2 c3 c4 c5 rs hm hQ hf hz ho1 ho2 hh hR0 hjP hjR hjO eR
  go_enter Try.func91, Try.ntmps91
  go_wp2_with fail
  refine (hasI s qA (some ⟨gP, oP, none⟩) qL (some ⟨gO, oO, none⟩) qE nA cA nP cP nL cL nO cO nE cE tu sp ((j : Int) + 1) true ⟨fun _ => HH.out, fun _ => rfl⟩ m0 mP mO _).mono ?_
  rintro e w1 ⟨rfl, hb1⟩
  have HW1 : Hid (Below w.heap.size w w1) := bel_on (Nat.le_refl _) HB0.out hb1
  have HI1 : Hid (w1.heap[w.heap.size]? = some (.cells #[.slice s.q0 s.n0 s.c0, .slice s.q1 s.n1 s.c1, .slice s.q2 s.n2 s.c2, .slice s.q3 s.n3 s.c3, .slice s.q4 s.n4 s.c4, .slice qA nA cA, .slice (some ⟨gP, oP, none⟩) nP cP, .slice qL nL cL, .slice (some ⟨gO, oO, none⟩) nO cO, .int .i64 tu, .bool sp, .slice qE nE cE] 38)) := row_on HI0.out hb1
  have HZ1 : Hid (w1.heap[w.heap.size + 1]? = some (.cells #[.int .i64 0, .int .i64 0, .slice none 0 0, .int .i64 0, .int .i64 0, .int .i64 0] 100)) := row_on HZ0.out hb1
  clear hb1 HI0 HZ0 HB0
  have k1 := box12_cells HI1.out
  rw [HER.out] at k1
  have HC1 : Hid (w1.cell? ⟨w.heap.size, 0, none⟩ = some (.slice (some ⟨gR, oR, none⟩) s.n0 s.c0) ∧ w1.cell? ⟨w.heap.size, 5, none⟩ = some (.slice qA nA cA) ∧ w1.cell? ⟨gR, oR + j * 2, none⟩ = some (.int .i64 f) ∧ w1.cell? ⟨gR, oR + j * 2 + 1, none⟩ = some (.int .i64 z) ∧ Below w.heap.size w w1) := ⟨k1.1.1, k1.1.2.2.2.2.2.1, cell_on CC.out.1 HW1.out, cell_on CC.out.2 HW1.out, HW1.out⟩
  have hwj : IntKind.i64.wrap (j : Int) = j := wrap_in (by omega) (by omega)
  have j0 : (0 : Int) ≤ (j : Int) := by omega
  have j1 : (j : Int) < (s.n0 : Int) := by omega
  go_wp2
  clear k1
  go_region_held3 (fun w' => w'.cell? ⟨w.heap.size, 0, none⟩ = some (.slice (some ⟨gR, oR, none⟩) s.n0 s.c0) ∧ w'.cell? ⟨w.heap.size, 5, none⟩ = some (.slice qA nA cA) ∧ w'.cell? ⟨gR, oR + j * 2, none⟩ = some (.int .i64 f) ∧ w'.cell? ⟨gR, oR + j * 2 + 1, none⟩ = some (.int .i64 z) ∧ Below w.heap.size w w') (first | (refine keep4 (by assumption) ?_; assumption) | (with_reducible exact drew4 HC1.out)) (first | (go_at_call 152; refine (C.cellsI qA A nA cA f z HLA.out mA cA' _ (RA.out.keep (bel4 (by assumption)) (Nat.le_refl _))).mono ?_; rintro e w2 ⟨gc, rfl, hgc, hrc, hb2⟩))
  rename_i HH3
  have HW2 : Hid (Below w.heap.size w w2) := bel4 HH3
  have HI2 : Hid (w2.heap[w.heap.size]? = some (.cells #[.slice s.q0 s.n0 s.c0, .slice s.q1 s.n1 s.c1, .slice s.q2 s.n2 s.c2, .slice s.q3 s.n3 s.c3, .slice s.q4 s.n4 s.c4, .slice qA nA cA, .slice (some ⟨gP, oP, none⟩) nP cP, .slice qL nL cL, .slice (some ⟨gO, oO, none⟩) nO cO, .int .i64 tu, .bool sp, .slice qE nE cE] 38)) := row_on HI1.out (undrew' hb2)
  have HZ2 : Hid (w2.heap[w.heap.size + 1]? = some (.cells #[.int .i64 0, .int .i64 0, .slice none 0 0, .int .i64 0, .int .i64 0, .int .i64 0] 100)) := row_on HZ1.out (undrew' hb2)
  have HGC : Hid (w.heap.size + 1 < gc) := (show w.heap.size + 1 < gc by have h1 := row_lt HZ1.out; have h2 : w1.heap.size ≤ gc := hgc; omega)
  have HRC : Hid (RowAt w2 gc (C.ceL A f z)) := hrc
  clear HH3 hb2 hgc hrc HC1 HI1 HZ1 HW1 CC RA
  have k2 := box12_cells HI2.out
  have HQ : Hid (w2.cell? ⟨w.heap.size, 6, none⟩ = some (.slice (some ⟨gP, oP, none⟩) nP cP) ∧ w2.cell? ⟨w.heap.size, 8, none⟩ = some (.slice (some ⟨gO, oO, none⟩) nO cO) ∧ w2.cell? ⟨gP, oP + j * 6, none⟩ = some (.int .i64 st) ∧ w2.cell? ⟨gP, oP + j * 6 + 1, none⟩ = some (.int .i64 pc) ∧ w2.cell? ⟨gP, oP + j * 6 + 2, none⟩ = some (.slice ba m ca) ∧ w2.cell? ⟨gP, oP + j * 6 + 3, none⟩ = some (.int .i64 ss) ∧ w2.cell? ⟨gP, oP + j * 6 + 4, none⟩ = some (.int .i64 en) ∧ w2.cell? ⟨gP, oP + j * 6 + 5, none⟩ = some (.int .i64 la)) := ⟨k2.1.2.2.2.2.2.2.1, k2.1.2.2.2.2.2.2.2.2.1, cell_on CP6.out.1 HW2.out, cell_on CP6.out.2.1 HW2.out, cell_on CP6.out.2.2.1 HW2.out, cell_on CP6.out.2.2.2.1 HW2.out, cell_on CP6.out.2.2.2.2.1 HW2.out, cell_on CP6.out.2.2.2.2.2 HW2.out⟩
  have gPlt : gP < w.heap.size := World.block_lt_of_cell? w ⟨gP, oP + j * 6, none⟩ CP6.out.1
  have HNE : Hid ((⟨w.heap.size, 6, none⟩ : Addr).block ≠ w.heap.size + 1 ∧ (⟨w.heap.size, 8, none⟩ : Addr).block ≠ w.heap.size + 1 ∧ (⟨gP, oP + j * 6, none⟩ : Addr).block ≠ w.heap.size + 1 ∧ (⟨gP, oP + j * 6 + 1, none⟩ : Addr).block ≠ w.heap.size + 1 ∧ (⟨gP, oP + j * 6 + 2, none⟩ : Addr).block ≠ w.heap.size + 1 ∧ (⟨gP, oP + j * 6 + 3, none⟩ : Addr).block ≠ w.heap.size + 1 ∧ (⟨gP, oP + j * 6 + 4, none⟩ : Addr).block ≠ w.heap.size + 1 ∧ (⟨gP, oP + j * 6 + 5, none⟩ : Addr).block ≠ w.heap.size + 1) := ⟨(show w.heap.size ≠ w.heap.size + 1 by omega), (show w.heap.size ≠ w.heap.size + 1 by omega), (show gP ≠ w.heap.size + 1 by omega), (show gP ≠ w.heap.size + 1 by omega), (show gP ≠ w.heap.size + 1 by omega), (show gP ≠ w.heap.size + 1 by omega), (show gP ≠ w.heap.size + 1 by omega), (show gP ≠ w.heap.size + 1 by omega)⟩
  have HBc : Hid (Below w2.heap.size w2 w2.drew) := (Below.refl _ _).drew
  have j2 : (j : Int) < (nP : Int) := by omega
  go_wp2
  clear k2 j1 CP6
  go_region_held3 (fun w' => w'.cell? ⟨w.heap.size, 6, none⟩ = some (.slice (some ⟨gP, oP, none⟩) nP cP) ∧ w'.cell? ⟨w.heap.size, 8, none⟩ = some (.slice (some ⟨gO, oO, none⟩) nO cO) ∧ w'.cell? ⟨gP, oP + j * 6, none⟩ = some (.int .i64 st) ∧ w'.cell? ⟨gP, oP + j * 6 + 1, none⟩ = some (.int .i64 pc) ∧ w'.cell? ⟨gP, oP + j * 6 + 2, none⟩ = some (.slice ba m ca) ∧ w'.cell? ⟨gP, oP + j * 6 + 3, none⟩ = some (.int .i64 ss) ∧ w'.cell? ⟨gP, oP + j * 6 + 4, none⟩ = some (.int .i64 en) ∧ w'.cell? ⟨gP, oP + j * 6 + 5, none⟩ = some (.int .i64 la))
    (first | (with_reducible exact e8_set6 (e8_keep HQ.out HBc.out) HNE.out) | (with_reducible exact e8_keep HQ.out HBc.out))
    (first | (go_at_call 153; refine (copyPI st pc ss en la ba sk m ca HM.out hsz _ (RS.out.keep (bel_on (Nat.le_refl _) HW2.out HBc.out) (Nat.le_refl _))).mono ?_; rintro e w3 ⟨g, rfl, hg, hrow, hb3⟩; have HBc : Hid (Below w2.heap.size w2 w3) := bel_on (Nat.le_refl _) HBc.out hb3; have kz := box6_cells (row_on HZ2.out HBc.out)) | (go_at_call 155; refine (cutRI gO oO nO cO j jO mO cO' _).mono ?_; rintro e w4 ⟨rfl, rfl⟩) | (go_at_call 154; refine (C.copyI (some ⟨gO, oO + 2 * j, none⟩) [o1, o2] 2 2 rfl (by omega) _ (RO.out.keep (bel_on (Nat.le_refl _) HW2.out HBc.out) (Nat.le_refl _))).mono ?_; rintro e w5 ⟨rfl, hrow5, hb5⟩; have HBc : Hid (Below w2.heap.size w2 w5) := bel_on (Nat.le_refl _) HBc.out hb5; have kz := box6_cells (row_on HZ2.out HBc.out)))
  rename_i HH4
  clear HH4
  have hg3 : w2.heap.size + 1 < g := hg
  have hgl : g < w4.heap.size := hrow.lt
  have hgcl : gc < w2.heap.size := HRC.out.lt
  have hw2s : w.heap.size + 1 < w2.heap.size := row_lt HZ2.out
  have RG : Hid (RowAt w5 g sk) := RowAt.keep hrow hb5 hrow.lt
  have RGC : Hid (RowAt w5 gc (C.ceL A f z)) := RowAt.keep HRC.out HBc.out HRC.out.lt
  obtain ⟨go, hgo⟩ : ∃ go, w4.heap.size = go := ⟨_, rfl⟩
  rw [hgo] at hrow5 ⊢
  have RGO : Hid (RowAt w5 go [o1, o2]) := hrow5
  have HNN : Hid (w.heap.size + 1 < g ∧ w.heap.size + 1 < gc ∧ w.heap.size + 1 < go ∧ g ≠ gc ∧ g ≠ go ∧ gc ≠ go) := ⟨by omega, HGC.out, by omega, by omega, by omega, by omega⟩
  have HW5 : Hid (Below w.heap.size w w5) := bel_on (Nat.le_refl _) HW2.out HBc.out
  clear hg hg3 hgl hgcl hw2s hrow hrow5 hb3 hb5 hgo HBc HQ HRC HGC HW2 HI2 HZ2 RS RO
  go_wp2
  refine bodyPost_ret (v := .tuple #[.agg #[.int .i64 st, .int .i64 pc, .slice (some ⟨g, 0, none⟩) m m, .int .i64 ss, .int .i64 en, .int .i64 la], .slice (some ⟨gc, 0, none⟩) (C.cutN nA f z) (C.cutN nA f z), .slice (some ⟨go, 0, none⟩) 2 2]) (by simp [results, Try.results91, go_sem, kz]) rfl ⟨g, gc, go, rfl, ⟨by have := HNN.out; omega, by have := HNN.out; omega, by have := HNN.out; omega, HNN.out.2.2.2.1, HNN.out.2.2.2.2.1, HNN.out.2.2.2.2.2, ?_, ?_, ?_⟩, ?_⟩
  · exact set_far (set_far (set_far (set_far (set_far (set_far (RG.out) (by have := HNN.out; omega)) (by have := HNN.out; omega)) (by have := HNN.out; omega)) (by have := HNN.out; omega)) (by have := HNN.out; omega)) (by have := HNN.out; omega)
  · exact set_far (set_far (set_far (set_far (set_far (set_far (RGC.out) (by have := HNN.out; omega)) (by have := HNN.out; omega)) (by have := HNN.out; omega)) (by have := HNN.out; omega)) (by have := HNN.out; omega)) (by have := HNN.out; omega)
  · exact set_far (set_far (set_far (set_far (set_far (set_far (RGO.out) (by have := HNN.out; omega)) (by have := HNN.out; omega)) (by have := HNN.out; omega)) (by have := HNN.out; omega)) (by have := HNN.out; omega)) (by have := HNN.out; omega)
  · exact ((((((HW5.out).setCell (show w.heap.size ≤ w.heap.size + 1 by omega) _).setCell (show w.heap.size ≤ w.heap.size + 1 by omega) _).setCell (show w.heap.size ≤ w.heap.size + 1 by omega) _).setCell (show w.heap.size ≤ w.heap.size + 1 by omega) _).setCell (show w.heap.size ≤ w.heap.size + 1 by omega) _).setCell (show w.heap.size ≤ w.heap.size + 1 by omega) _
end Go.Proofs.Ytfdhcchakoldpaa
