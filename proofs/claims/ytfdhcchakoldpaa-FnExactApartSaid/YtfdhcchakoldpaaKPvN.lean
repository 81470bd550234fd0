/-
  PartView where there is none.
-/
import Derived.Test.YtfdhcchakoldpaaKPvI
namespace Go.Proofs.Ytfdhcchakoldpaa
open Go.ChangeShapes Go.WideShapes Go.ChangeAt Go.RowKit Go.PlainAid
set_option linter.unusedVariables false

set_option maxRecDepth 100000 in
set_option maxHeartbeats 4000000 in
theorem viewI_no (k : KH) (K : KX) (p : Int) (hh : ¬ HasP K.P.length k.s.n0 K.O.length p) (w : World) (hs : SmK k K) :
    Calls Try.prog 91 #[KerV k K, .int .i64 p] w fun e w' => e = .returned (.tuple #[.agg #[.int .i64 0, .int .i64 0, .slice none 0 0, .int .i64 0, .int .i64 0, .int .i64 0], .slice none 0 0, .slice none 0 0]) ∧ Below w.heap.size w w' := by
  obtain ⟨s, qA, cA, qP, cP, qL, cL, qO, cO, qE, cE⟩ := k
  obtain ⟨X, A, P, L, O, tu, sp, E⟩ := K
  dsimp only at hh
  obtain ⟨nA, hA⟩ : ∃ n, A.length = n := ⟨_, rfl⟩
  obtain ⟨nP, hP⟩ : ∃ n, P.length = n := ⟨_, rfl⟩
  obtain ⟨nL, hL⟩ : ∃ n, L.length = n := ⟨_, rfl⟩
  obtain ⟨nO, hO⟩ : ∃ n, O.length = n := ⟨_, rfl⟩
  obtain ⟨nE, hE⟩ : ∃ n, E.length = n := ⟨_, rfl⟩
  have HNA : Hid (A.length = nA) := hA
  have HNP : Hid (P.length = nP) := hP
  have HNL : Hid (L.length = nL) := hL
  have HNO : Hid (O.length = nO) := hO
  have HNE : Hid (E.length = nE) := hE
  have mA : nA ≤ 1048576 := by rw [← hA]; exact hs.a
  have mP : nP ≤ 1048576 := by rw [← hP]; exact hs.p
  have mO : nO ≤ 1048576 := by rw [← hO]; exact hs.o
  have m0 : s.n0 ≤ 1048576 := hs.x.n0
  unfold KerV
  dsimp only
  rw [hA, hP, hL, hO, hE]
  rw [hP, hO] at hh
  have HI0 : Hid (((w.alloc (.cells #[.slice s.q0 s.n0 s.c0, .slice s.q1 s.n1 s.c1, .slice s.q2 s.n2 s.c2, .slice s.q3 s.n3 s.c3, .slice s.q4 s.n4 s.c4, .slice qA nA cA, .slice qP nP cP, .slice qL nL cL, .slice qO nO cO, .int .i64 tu, .bool sp, .slice qE nE cE] 38)).alloc (.cells #[.int .i64 0, .int .i64 0, .slice none 0 0, .int .i64 0, .int .i64 0, .int .i64 0] 100)).heap[w.heap.size]? = some (.cells #[.slice s.q0 s.n0 s.c0, .slice s.q1 s.n1 s.c1, .slice s.q2 s.n2 s.c2, .slice s.q3 s.n3 s.c3, .slice s.q4 s.n4 s.c4, .slice qA nA cA, .slice qP nP cP, .slice qL nL cL, .slice qO nO cO, .int .i64 tu, .bool sp, .slice qE nE cE] 38)) := al2_1 w _ _
  have HZ0 : Hid (((w.alloc (.cells #[.slice s.q0 s.n0 s.c0, .slice s.q1 s.n1 s.c1, .slice s.q2 s.n2 s.c2, .slice s.q3 s.n3 s.c3, .slice s.q4 s.n4 s.c4, .slice qA nA cA, .slice qP nP cP, .slice qL nL cL, .slice qO nO cO, .int .i64 tu, .bool sp, .slice qE nE cE] 38)).alloc (.cells #[.int .i64 0, .int .i64 0, .slice none 0 0, .int .i64 0, .int .i64 0, .int .i64 0] 100)).heap[w.heap.size + 1]? = some (.cells #[.int .i64 0, .int .i64 0, .slice none 0 0, .int .i64 0, .int .i64 0, .int .i64 0] 100)) := al2_2 w _ _
  have HB0 : Hid (Below w.heap.size w ((w.alloc (.cells #[.slice s.q0 s.n0 s.c0, .slice s.q1 s.n1 s.c1, .slice s.q2 s.n2 s.c2, .slice s.q3 s.n3 s.c3, .slice s.q4 s.n4 s.c4, .slice qA nA cA, .slice qP nP cP, .slice qL nL cL, .slice qO nO cO, .int .i64 tu, .bool sp, .slice qE nE cE] 38)).alloc (.cells #[.int .i64 0, .int .i64 0, .slice none 0 0, .int .i64 0, .int .i64 0, .int .i64 0] 100))) := al2_b w _ _
  have HH : Hid (¬ HasP nP s.n0 nO p) := hh
  clear hs hA hP hL hO hE hh
  go_enter Try.func91, Try.ntmps91
  go_wp2_with fail
  refine (hasI s qA qP qL qO qE nA cA nP cP nL cL nO cO nE cE tu sp p false ⟨fun h => (by cases h), fun h => absurd h HH.out⟩ m0 mP mO _).mono ?_
  rintro e w1 ⟨rfl, hb1⟩
  have HW1 : Hid (Below w.heap.size w w1) := bel_on (Nat.le_refl _) HB0.out hb1
  have kz := box6_cells (row_on HZ0.out hb1)
  clear hb1 HI0 HZ0 HB0
  go_wp2
  refine bodyPost_ret (v := .tuple #[.agg #[.int .i64 0, .int .i64 0, .slice none 0 0, .int .i64 0, .int .i64 0, .int .i64 0], .slice none 0 0, .slice none 0 0]) (by simp [results, Try.results91, go_sem, kz]) rfl ⟨rfl, ?_⟩
  exact ((((((HW1.out).setCell (show w.heap.size ≤ w.heap.size + 1 by omega) _).setCell (show w.heap.size ≤ w.heap.size + 1 by omega) _).setCell (show w.heap.size ≤ w.heap.size + 1 by omega) _).setCell (show w.heap.size ≤ w.heap.size + 1 by omega) _).setCell (show w.heap.size ≤ w.heap.size + 1 by omega) _).setCell (show w.heap.size ≤ w.heap.size + 1 by omega) _
set_option maxRecDepth 100000 in
set_option maxHeartbeats 4000000 in
theorem viewS_no (k : KH) (K : KX) (p : Int) (hp : -9223372036854775808 ≤ p ∧ p ≤ 9223372036854775807) (hh : ¬ HasP K.P.length k.s.n0 K.O.length p) (w : World) (hs : SmK k K) :
    Calls Try.prog 37 #[KerV k K, .int .i64 p] w fun e w' => ∃ q1 c1 q2 c2, e = .returned (.tuple #[.agg #[.int .i64 0, .int .i64 0, .slice none 0 0, .int .i64 0, .int .i64 0, .int .i64 0], .slice q1 0 c1, .slice q2 0 c2]) ∧ Below w.heap.size w w' := by
  obtain ⟨s, qA, cA, qP, cP, qL, cL, qO, cO, qE, cE⟩ := k
  obtain ⟨X, A, P, L, O, tu, sp, E⟩ := K
  dsimp only at hh
  obtain ⟨nA, hA⟩ : ∃ n, A.length = n := ⟨_, rfl⟩
  obtain ⟨nP, hP⟩ : ∃ n, P.length = n := ⟨_, rfl⟩
  obtain ⟨nL, hL⟩ : ∃ n, L.length = n := ⟨_, rfl⟩
  obtain ⟨nO, hO⟩ : ∃ n, O.length = n := ⟨_, rfl⟩
  obtain ⟨nE, hE⟩ : ∃ n, E.length = n := ⟨_, rfl⟩
  have HNA : Hid (A.length = nA) := hA
  have HNP : Hid (P.length = nP) := hP
  have HNL : Hid (L.length = nL) := hL
  have HNO : Hid (O.length = nO) := hO
  have HNE : Hid (E.length = nE) := hE
  have mA : nA ≤ 1048576 := by rw [← hA]; exact hs.a
  have mP : nP ≤ 1048576 := by rw [← hP]; exact hs.p
  have mO : nO ≤ 1048576 := by rw [← hO]; exact hs.o
  have m0 : s.n0 ≤ 1048576 := hs.x.n0
  unfold KerV
  dsimp only
  rw [hA, hP, hL, hO, hE]
  rw [hP, hO] at hh
  have HI0 : Hid (((w.alloc (.cells #[.slice s.q0 s.n0 s.c0, .slice s.q1 s.n1 s.c1, .slice s.q2 s.n2 s.c2, .slice s.q3 s.n3 s.c3, .slice s.q4 s.n4 s.c4, .slice qA nA cA, .slice qP nP cP, .slice qL nL cL, .slice qO nO cO, .int .i64 tu, .bool sp, .slice qE nE cE] 38)).alloc (.cells #[.int .i64 0, .int .i64 0, .slice none 0 0, .int .i64 0, .int .i64 0, .int .i64 0] 100)).heap[w.heap.size]? = some (.cells #[.slice s.q0 s.n0 s.c0, .slice s.q1 s.n1 s.c1, .slice s.q2 s.n2 s.c2, .slice s.q3 s.n3 s.c3, .slice s.q4 s.n4 s.c4, .slice qA nA cA, .slice qP nP cP, .slice qL nL cL, .slice qO nO cO, .int .i64 tu, .bool sp, .slice qE nE cE] 38)) := al2_1 w _ _
  have HZ0 : Hid (((w.alloc (.cells #[.slice s.q0 s.n0 s.c0, .slice s.q1 s.n1 s.c1, .slice s.q2 s.n2 s.c2, .slice s.q3 s.n3 s.c3, .slice s.q4 s.n4 s.c4, .slice qA nA cA, .slice qP nP cP, .slice qL nL cL, .slice qO nO cO, .int .i64 tu, .bool sp, .slice qE nE cE] 38)).alloc (.cells #[.int .i64 0, .int .i64 0, .slice none 0 0, .int .i64 0, .int .i64 0, .int .i64 0] 100)).heap[w.heap.size + 1]? = some (.cells #[.int .i64 0, .int .i64 0, .slice none 0 0, .int .i64 0, .int .i64 0, .int .i64 0] 100)) := al2_2 w _ _
  have HB0 : Hid (Below w.heap.size w ((w.alloc (.cells #[.slice s.q0 s.n0 s.c0, .slice s.q1 s.n1 s.c1, .slice s.q2 s.n2 s.c2, .slice s.q3 s.n3 s.c3, .slice s.q4 s.n4 s.c4, .slice qA nA cA, .slice qP nP cP, .slice qL nL cL, .slice qO nO cO, .int .i64 tu, .bool sp, .slice qE nE cE] 38)).alloc (.cells #[.int .i64 0, .int .i64 0, .slice none 0 0, .int .i64 0, .int .i64 0, .int .i64 0] 100))) := al2_b w _ _
  have HH : Hid (¬ HasP nP s.n0 nO p) := hh
  clear hs hA hP hL hO hE hh
  have k0 := box12_cells HI0.out
  have z0 := box6_cells HZ0.out
  obtain ⟨b, hb⟩ : ∃ b, decide (1 ≤ p ∧ p ≤ (nP : Int)) = b := ⟨_, rfl⟩
  have HD : Hid (decide (1 ≤ p ∧ p ≤ (nP : Int)) = b) := hb
  go_enter Try.func37, Try.ntmps37
  go_wp2_with fail
  refine (inS 1 nP p b hb _).mono ?_
  rintro e w1 ⟨rfl, rfl⟩
  clear hb
  cases b with
  | false =>
    go_wp2
    refine bodyPost_ret (v := .tuple #[.agg #[.int .i64 0, .int .i64 0, .slice none 0 0, .int .i64 0, .int .i64 0, .int .i64 0], .slice (some ⟨w.heap.size + 1 + 1, 0, none⟩) 0 0, .slice (some ⟨w.heap.size + 1 + 1 + 1, 0, none⟩) 0 0]) (by simp [results, Try.results37, go_sem, z0]) rfl ⟨_, _, _, _, rfl, ?_⟩
    repeat (first | refine Below.setCell ?_ (show w.heap.size ≤ w.heap.size + 1 by omega) _ | refine Below.alloc ?_ (by simp; omega) _)
    exact HB0.out
  | true =>
    have hr : 1 ≤ p ∧ p ≤ (nP : Int) := of_decide_eq_true HD.out
    clear HD
    have hw2 : wrap64 (2 * p) = 2 * p := wrap64_in (by omega) (by omega)
    by_cases h1 : p ≤ (s.n0 : Int)
    · have h1' : ¬ (s.n0 : Int) < p := by omega
      have h2 : (nO : Int) < 2 * p := by
        by_cases h3 : 2 * p ≤ (nO : Int)
        · exact absurd ⟨hr.1, hr.2, h1, h3⟩ HH.out
        · omega
      clear hr
      go_wp2
      refine bodyPost_ret (v := .tuple #[.agg #[.int .i64 0, .int .i64 0, .slice none 0 0, .int .i64 0, .int .i64 0, .int .i64 0], .slice (some ⟨w.heap.size + 1 + 1, 0, none⟩) 0 0, .slice (some ⟨w.heap.size + 1 + 1 + 1, 0, none⟩) 0 0]) (by simp [results, Try.results37, go_sem, z0]) rfl ⟨_, _, _, _, rfl, ?_⟩
      repeat (first | refine Below.setCell ?_ (show w.heap.size ≤ w.heap.size + 1 by omega) _ | refine Below.alloc ?_ (by simp; omega) _)
      exact HB0.out
    · have h1' : (s.n0 : Int) < p := by omega
      clear hr
      go_wp2
      refine bodyPost_ret (v := .tuple #[.agg #[.int .i64 0, .int .i64 0, .slice none 0 0, .int .i64 0, .int .i64 0, .int .i64 0], .slice (some ⟨w.heap.size + 1 + 1, 0, none⟩) 0 0, .slice (some ⟨w.heap.size + 1 + 1 + 1, 0, none⟩) 0 0]) (by simp [results, Try.results37, go_sem, z0]) rfl ⟨_, _, _, _, rfl, ?_⟩
      repeat (first | refine Below.setCell ?_ (show w.heap.size ≤ w.heap.size + 1 by omega) _ | refine Below.alloc ?_ (by simp; omega) _)
      exact HB0.out
end Go.Proofs.Ytfdhcchakoldpaa
