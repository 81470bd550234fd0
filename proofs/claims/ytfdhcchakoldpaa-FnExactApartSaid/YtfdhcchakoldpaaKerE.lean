/-
  Two kernels are compared.
-/
import Derived.Test.YtfdhcchakoldpaaKer
import Derived.Test.YtfdhcchakoldpaaLineW
namespace Go.Proofs.Ytfdhcchakoldpaa
open Go.ChangeShapes Go.WideShapes Go.ChangeAt Go.RowKit Go.PlainAid
set_option linter.unusedVariables false

set_option maxRecDepth 100000 in
set_option maxHeartbeats 8000000 in
theorem eqK (k k' : KH) (K : KX) (w : World) (h : RdK w k K) (h' : RdK w k' K) (hs : SmK k K) :
    Calls Try.prog 25 #[KerV k K, KerV k' K] w fun e w' => e = .returned (.bool true) ∧ Below w.heap.size w w' := by
  obtain ⟨s, qA, cA, qP, cP, qL, cL, qO, cO, qE, cE⟩ := k
  obtain ⟨X, A, P, L, O, tu, sp, E⟩ := K
  obtain ⟨u, bA, dA, bP, dP, bL, dL, bO, dO, bE, dE⟩ := k'
  have HX : Hid (RdK w ⟨s, qA, cA, qP, cP, qL, cL, qO, cO, qE, cE⟩ ⟨X, A, P, L, O, tu, sp, E⟩) := h
  have HY : Hid (RdK w ⟨u, bA, dA, bP, dP, bL, dL, bO, dO, bE, dE⟩ ⟨X, A, P, L, O, tu, sp, E⟩) := h'
  have HS : Hid (SmK ⟨s, qA, cA, qP, cP, qL, cL, qO, cO, qE, cE⟩ ⟨X, A, P, L, O, tu, sp, E⟩) := hs
  obtain ⟨nA, hA⟩ : ∃ n, A.length = n := ⟨_, rfl⟩
  obtain ⟨nP, hP⟩ : ∃ n, P.length = n := ⟨_, rfl⟩
  obtain ⟨nL, hL⟩ : ∃ n, L.length = n := ⟨_, rfl⟩
  obtain ⟨nO, hO⟩ : ∃ n, O.length = n := ⟨_, rfl⟩
  obtain ⟨nE, hE⟩ : ∃ n, E.length = n := ⟨_, rfl⟩
  have HNA : Hid (A.length = nA) := hA
  have HNP : Hid (P.length = nP) := hP
  have HNL : Hid (L.length = nL) := hL
  have HNO : Hid (O.length = nO) := hO
  have HNE : Hid (E.length = nE) := hE
  have mA : nA ≤ 1048576 := by rw [← hA]; exact hs.a
  have mP : nP ≤ 1048576 := by rw [← hP]; exact hs.p
  have mL : nL ≤ 1048576 := by rw [← hL]; exact hs.l
  have mO : nO ≤ 1048576 := by rw [← hO]; exact hs.o
  have mE : nE ≤ 1048576 := by rw [← hE]; exact hs.e
  unfold KerV
  dsimp only
  rw [hA, hP, hL, hO, hE]
  have HI0 : Hid (((w.alloc (.cells #[.slice s.q0 s.n0 s.c0, .slice s.q1 s.n1 s.c1, .slice s.q2 s.n2 s.c2, .slice s.q3 s.n3 s.c3, .slice s.q4 s.n4 s.c4, .slice qA nA cA, .slice qP nP cP, .slice qL nL cL, .slice qO nO cO, .int .i64 tu, .bool sp, .slice qE nE cE] 38)).alloc (.cells #[.slice u.q0 u.n0 u.c0, .slice u.q1 u.n1 u.c1, .slice u.q2 u.n2 u.c2, .slice u.q3 u.n3 u.c3, .slice u.q4 u.n4 u.c4, .slice bA nA dA, .slice bP nP dP, .slice bL nL dL, .slice bO nO dO, .int .i64 tu, .bool sp, .slice bE nE dE] 38)).heap[w.heap.size]? = some (.cells #[.slice s.q0 s.n0 s.c0, .slice s.q1 s.n1 s.c1, .slice s.q2 s.n2 s.c2, .slice s.q3 s.n3 s.c3, .slice s.q4 s.n4 s.c4, .slice qA nA cA, .slice qP nP cP, .slice qL nL cL, .slice qO nO cO, .int .i64 tu, .bool sp, .slice qE nE cE] 38)) := al2_1 w _ _
  have HJ0 : Hid (((w.alloc (.cells #[.slice s.q0 s.n0 s.c0, .slice s.q1 s.n1 s.c1, .slice s.q2 s.n2 s.c2, .slice s.q3 s.n3 s.c3, .slice s.q4 s.n4 s.c4, .slice qA nA cA, .slice qP nP cP, .slice qL nL cL, .slice qO nO cO, .int .i64 tu, .bool sp, .slice qE nE cE] 38)).alloc (.cells #[.slice u.q0 u.n0 u.c0, .slice u.q1 u.n1 u.c1, .slice u.q2 u.n2 u.c2, .slice u.q3 u.n3 u.c3, .slice u.q4 u.n4 u.c4, .slice bA nA dA, .slice bP nP dP, .slice bL nL dL, .slice bO nO dO, .int .i64 tu, .bool sp, .slice bE nE dE] 38)).heap[w.heap.size + 1]? = some (.cells #[.slice u.q0 u.n0 u.c0, .slice u.q1 u.n1 u.c1, .slice u.q2 u.n2 u.c2, .slice u.q3 u.n3 u.c3, .slice u.q4 u.n4 u.c4, .slice bA nA dA, .slice bP nP dP, .slice bL nL dL, .slice bO nO dO, .int .i64 tu, .bool sp, .slice bE nE dE] 38)) := al2_2 w _ _
  have HB0 : Hid (Below w.heap.size w ((w.alloc (.cells #[.slice s.q0 s.n0 s.c0, .slice s.q1 s.n1 s.c1, .slice s.q2 s.n2 s.c2, .slice s.q3 s.n3 s.c3, .slice s.q4 s.n4 s.c4, .slice qA nA cA, .slice qP nP cP, .slice qL nL cL, .slice qO nO cO, .int .i64 tu, .bool sp, .slice qE nE cE] 38)).alloc (.cells #[.slice u.q0 u.n0 u.c0, .slice u.q1 u.n1 u.c1, .slice u.q2 u.n2 u.c2, .slice u.q3 u.n3 u.c3, .slice u.q4 u.n4 u.c4, .slice bA nA dA, .slice bP nP dP, .slice bL nL dL, .slice bO nO dO, .int .i64 tu, .bool sp, .slice bE nE dE] 38))) := al2_b w _ _
  clear h h' hs hA hP hL hO hE
  go_enter Try.func25, Try.ntmps25
  go_wp2_with fail
  refine (eqSet s u X _ (HX.out.x.on HB0.out) (HY.out.x.on HB0.out) HS.out.x).mono ?_
  rintro e w1 ⟨rfl, hb1⟩
  have HB1 : Hid (Below w.heap.size w w1) := bel_on (Nat.le_refl _) HB0.out hb1
  have HI1 : Hid (w1.heap[w.heap.size]? = some (.cells #[.slice s.q0 s.n0 s.c0, .slice s.q1 s.n1 s.c1, .slice s.q2 s.n2 s.c2, .slice s.q3 s.n3 s.c3, .slice s.q4 s.n4 s.c4, .slice qA nA cA, .slice qP nP cP, .slice qL nL cL, .slice qO nO cO, .int .i64 tu, .bool sp, .slice qE nE cE] 38)) := row_on HI0.out hb1
  have HJ1 : Hid (w1.heap[w.heap.size + 1]? = some (.cells #[.slice u.q0 u.n0 u.c0, .slice u.q1 u.n1 u.c1, .slice u.q2 u.n2 u.c2, .slice u.q3 u.n3 u.c3, .slice u.q4 u.n4 u.c4, .slice bA nA dA, .slice bP nP dP, .slice bL nL dL, .slice bO nO dO, .int .i64 tu, .bool sp, .slice bE nE dE] 38)) := row_on HJ0.out hb1
  have kI1 := box12_cells HI1.out
  have kJ1 := box12_cells HJ1.out
  clear hb1 HB0 HI0 HJ0
  go_wp2_with fail
  refine (C.eqA qA bA A nA cA dA HNA.out mA _ (HX.out.a.keep HB1.out (Nat.le_refl _)) (HY.out.a.keep HB1.out (Nat.le_refl _))).mono ?_
  rintro e w2 ⟨rfl, hb2⟩
  have HB2 : Hid (Below w.heap.size w w2) := bel_on (Nat.le_refl _) HB1.out hb2
  have HI2 : Hid (w2.heap[w.heap.size]? = some (.cells #[.slice s.q0 s.n0 s.c0, .slice s.q1 s.n1 s.c1, .slice s.q2 s.n2 s.c2, .slice s.q3 s.n3 s.c3, .slice s.q4 s.n4 s.c4, .slice qA nA cA, .slice qP nP cP, .slice qL nL cL, .slice qO nO cO, .int .i64 tu, .bool sp, .slice qE nE cE] 38)) := row_on HI1.out hb2
  have HJ2 : Hid (w2.heap[w.heap.size + 1]? = some (.cells #[.slice u.q0 u.n0 u.c0, .slice u.q1 u.n1 u.c1, .slice u.q2 u.n2 u.c2, .slice u.q3 u.n3 u.c3, .slice u.q4 u.n4 u.c4, .slice bA nA dA, .slice bP nP dP, .slice bL nL dL, .slice bO nO dO, .int .i64 tu, .bool sp, .slice bE nE dE] 38)) := row_on HJ1.out hb2
  have kI2 := box12_cells HI2.out
  have kJ2 := box12_cells HJ2.out
  clear hb2 HB1 HI1 HJ1 kI1 kJ1
  go_wp2_with fail
  refine (eqPs qP bP P nP cP dP HNP.out mP HS.out.ps _ (HX.out.p.on HB2.out) (HY.out.p.on HB2.out)).mono ?_
  rintro e w3 ⟨rfl, hb3⟩
  have HB3 : Hid (Below w.heap.size w w3) := bel_on (Nat.le_refl _) HB2.out hb3
  have HI3 : Hid (w3.heap[w.heap.size]? = some (.cells #[.slice s.q0 s.n0 s.c0, .slice s.q1 s.n1 s.c1, .slice s.q2 s.n2 s.c2, .slice s.q3 s.n3 s.c3, .slice s.q4 s.n4 s.c4, .slice qA nA cA, .slice qP nP cP, .slice qL nL cL, .slice qO nO cO, .int .i64 tu, .bool sp, .slice qE nE cE] 38)) := row_on HI2.out hb3
  have HJ3 : Hid (w3.heap[w.heap.size + 1]? = some (.cells #[.slice u.q0 u.n0 u.c0, .slice u.q1 u.n1 u.c1, .slice u.q2 u.n2 u.c2, .slice u.q3 u.n3 u.c3, .slice u.q4 u.n4 u.c4, .slice bA nA dA, .slice bP nP dP, .slice bL nL dL, .slice bO nO dO, .int .i64 tu, .bool sp, .slice bE nE dE] 38)) := row_on HJ2.out hb3
  have kI3 := box12_cells HI3.out
  have kJ3 := box12_cells HJ3.out
  clear hb3 HB2 HI2 HJ2 kI2 kJ2
  go_wp2_with fail
  refine (eqLs qL bL L nL cL dL HNL.out mL HS.out.ls _ (HX.out.l.on HB3.out) (HY.out.l.on HB3.out)).mono ?_
  rintro e w4 ⟨rfl, hb4⟩
  have HB4 : Hid (Below w.heap.size w w4) := bel_on (Nat.le_refl _) HB3.out hb4
  have HI4 : Hid (w4.heap[w.heap.size]? = some (.cells #[.slice s.q0 s.n0 s.c0, .slice s.q1 s.n1 s.c1, .slice s.q2 s.n2 s.c2, .slice s.q3 s.n3 s.c3, .slice s.q4 s.n4 s.c4, .slice qA nA cA, .slice qP nP cP, .slice qL nL cL, .slice qO nO cO, .int .i64 tu, .bool sp, .slice qE nE cE] 38)) := row_on HI3.out hb4
  have HJ4 : Hid (w4.heap[w.heap.size + 1]? = some (.cells #[.slice u.q0 u.n0 u.c0, .slice u.q1 u.n1 u.c1, .slice u.q2 u.n2 u.c2, .slice u.q3 u.n3 u.c3, .slice u.q4 u.n4 u.c4, .slice bA nA dA, .slice bP nP dP, .slice bL nL dL, .slice bO nO dO, .int .i64 tu, .bool sp, .slice bE nE dE] 38)) := row_on HJ3.out hb4
  have kI4 := box12_cells HI4.out
  have kJ4 := box12_cells HJ4.out
  clear hb4 HB3 HI3 HJ3 kI3 kJ3
  go_wp2_with fail
  refine (C.eqInts qO bO O nO cO dO HNO.out mO _ (HX.out.o.keep HB4.out (Nat.le_refl _)) (HY.out.o.keep HB4.out (Nat.le_refl _))).mono ?_
  rintro e w5 ⟨rfl, hb5⟩
  have HB5 : Hid (Below w.heap.size w w5) := bel_on (Nat.le_refl _) HB4.out hb5
  have HI5 : Hid (w5.heap[w.heap.size]? = some (.cells #[.slice s.q0 s.n0 s.c0, .slice s.q1 s.n1 s.c1, .slice s.q2 s.n2 s.c2, .slice s.q3 s.n3 s.c3, .slice s.q4 s.n4 s.c4, .slice qA nA cA, .slice qP nP cP, .slice qL nL cL, .slice qO nO cO, .int .i64 tu, .bool sp, .slice qE nE cE] 38)) := row_on HI4.out hb5
  have HJ5 : Hid (w5.heap[w.heap.size + 1]? = some (.cells #[.slice u.q0 u.n0 u.c0, .slice u.q1 u.n1 u.c1, .slice u.q2 u.n2 u.c2, .slice u.q3 u.n3 u.c3, .slice u.q4 u.n4 u.c4, .slice bA nA dA, .slice bP nP dP, .slice bL nL dL, .slice bO nO dO, .int .i64 tu, .bool sp, .slice bE nE dE] 38)) := row_on HJ4.out hb5
  have kI5 := box12_cells HI5.out
  have kJ5 := box12_cells HJ5.out
  clear hb5 HB4 HI4 HJ4 kI4 kJ4
  go_wp2_with fail
  refine (eqEs qE bE E nE cE dE HNE.out mE _ (HX.out.e.on HB5.out) (HY.out.e.on HB5.out)).mono ?_
  rintro e w6 ⟨rfl, hb6⟩
  have HB6 : Hid (Below w.heap.size w w6) := bel_on (Nat.le_refl _) HB5.out hb6
  have HI6 : Hid (w6.heap[w.heap.size]? = some (.cells #[.slice s.q0 s.n0 s.c0, .slice s.q1 s.n1 s.c1, .slice s.q2 s.n2 s.c2, .slice s.q3 s.n3 s.c3, .slice s.q4 s.n4 s.c4, .slice qA nA cA, .slice qP nP cP, .slice qL nL cL, .slice qO nO cO, .int .i64 tu, .bool sp, .slice qE nE cE] 38)) := row_on HI5.out hb6
  have HJ6 : Hid (w6.heap[w.heap.size + 1]? = some (.cells #[.slice u.q0 u.n0 u.c0, .slice u.q1 u.n1 u.c1, .slice u.q2 u.n2 u.c2, .slice u.q3 u.n3 u.c3, .slice u.q4 u.n4 u.c4, .slice bA nA dA, .slice bP nP dP, .slice bL nL dL, .slice bO nO dO, .int .i64 tu, .bool sp, .slice bE nE dE] 38)) := row_on HJ5.out hb6
  have kI6 := box12_cells HI6.out
  have kJ6 := box12_cells HJ6.out
  clear hb6 HB5 HI5 HJ5 kI5 kJ5
  go_wp2
  go_ret
  exact ⟨rfl, HB6.out⟩
end Go.Proofs.Ytfdhcchakoldpaa
