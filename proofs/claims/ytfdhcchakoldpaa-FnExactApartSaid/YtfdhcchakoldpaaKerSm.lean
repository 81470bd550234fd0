/-
  A kernel is sized, where so much room is left.
-/
import Derived.Test.YtfdhcchakoldpaaKer
namespace Go.Proofs.Ytfdhcchakoldpaa
open Go.ChangeShapes Go.WideShapes Go.ChangeAt Go.RowKit Go.PlainAid
set_option linter.unusedVariables false

set_option maxRecDepth 100000 in
set_option maxHeartbeats 2000000 in
theorem szSetMm (s : SH) (X : SX) (M : Int) (M0 : 0 ≤ M) (M1 : M ≤ 1048576) (w : World) (h : RdX w s X) (hm : LimX s X) :
    Calls Try.prog 58 #[SetV s, .int .i64 M] w fun e w' => ∃ r : Int, e = .returned (.int .i64 r) ∧ (r = -1 ∨ (0 ≤ r ∧ r ≤ 1048576 ∧ SmX s X)) ∧ Below w.heap.size w w' := by
  have HX : Hid (RdX w s X) := h
  have HM : Hid (LimX s X) := hm
  have HB : Hid (Below w.heap.size w (w.alloc (.cells #[.slice s.q0 s.n0 s.c0, .slice s.q1 s.n1 s.c1, .slice s.q2 s.n2 s.c2, .slice s.q3 s.n3 s.c3, .slice s.q4 s.n4 s.c4] 80))) := (Below.refl _ _).alloc (Nat.le_refl _) _
  have m0 := hm.n0
  have m1 := hm.n1
  have m2 := hm.n2
  have m3 := hm.n3
  have m4 := hm.n4
  clear h hm
  unfold SetV
  go_enter Try.func58, Try.ntmps58
  go_wp2_with fail
  refine (szR11 s.q0 s.n0 s.c0 M (by omega) (by omega) m0 _).mono ?_
  rintro e w0 ⟨rfl, rfl⟩
  by_cases h0 : (s.n0 : Int) ≤ M
  · rw [if_pos h0]
    have g0 : ¬ M - s.n0 < 0 := by omega
    go_wp2_with fail
    refine (szW11 s.q1 s.n1 s.c1 (M - s.n0) (by omega) (by omega) m1 _).mono ?_
    rintro e w1 ⟨rfl, rfl⟩
    by_cases h1 : (s.n1 : Int) ≤ M - s.n0
    · rw [if_pos h1]
      have g1 : ¬ M - s.n0 - s.n1 < 0 := by omega
      go_wp2_with fail
      refine (szO11 s.q2 s.n2 s.c2 (M - s.n0 - s.n1) (by omega) (by omega) m2 _).mono ?_
      rintro e w2 ⟨rfl, rfl⟩
      by_cases h2 : (s.n2 : Int) ≤ M - s.n0 - s.n1
      · rw [if_pos h2]
        have g2 : ¬ M - s.n0 - s.n1 - s.n2 < 0 := by omega
        go_wp2_with fail
        refine (szU11 s.q3 s.n3 s.c3 (M - s.n0 - s.n1 - s.n2) (by omega) (by omega) m3 _).mono ?_
        rintro e w3 ⟨rfl, rfl⟩
        by_cases h3 : (s.n3 : Int) ≤ M - s.n0 - s.n1 - s.n2
        · rw [if_pos h3]
          have g3 : ¬ M - s.n0 - s.n1 - s.n2 - s.n3 < 0 := by omega
          obtain ⟨r, hr⟩ : ∃ r : Int, r = if (s.n4 : Int) + S.bytesS X.S ≤ M - s.n0 - s.n1 - s.n2 - s.n3 then M - s.n0 - s.n1 - s.n2 - s.n3 - s.n4 - S.bytesS X.S else -1 := ⟨_, rfl⟩
          have HR : Hid (r = -1 ∨ (0 ≤ r ∧ r ≤ 1048576 ∧ SmX s X)) := by
            by_cases hc : (s.n4 : Int) + S.bytesS X.S ≤ M - s.n0 - s.n1 - s.n2 - s.n3
            · rw [if_pos hc] at hr
              exact .inr ⟨by omega, by omega, ⟨by omega, by omega, by omega, by omega, by omega, by omega⟩⟩
            · rw [if_neg hc] at hr
              exact .inl hr
          have HRr : Hid (r = if (s.n4 : Int) + S.bytesS X.S ≤ M - s.n0 - s.n1 - s.n2 - s.n3 then M - s.n0 - s.n1 - s.n2 - s.n3 - s.n4 - S.bytesS X.S else -1) := hr
          clear hr
          go_wp2_with fail
          refine (S.szSs s.q4 X.S s.n4 s.c4 (M - s.n0 - s.n1 - s.n2 - s.n3) r (by omega) (by omega) HX.out.l4 m4 HM.out.z HRr.out _ (HX.out.on HB.out).r4).mono ?_
          rintro e w4 ⟨rfl, rfl⟩
          clear HRr
          by_cases hn : r < 0
          · have HE : Hid (r = -1) := by rcases HR.out with h' | h'; exact h'; omega
            go_wp2
            go_ret
            exact ⟨-1, rfl, .inl rfl, HB.out⟩
          · go_wp2
            go_ret
            exact ⟨r, rfl, HR.out, HB.out⟩
        · rw [if_neg h3]
          go_wp2
          go_ret
          exact ⟨-1, rfl, .inl rfl, HB.out⟩
      · rw [if_neg h2]
        go_wp2
        go_ret
        exact ⟨-1, rfl, .inl rfl, HB.out⟩
    · rw [if_neg h1]
      go_wp2
      go_ret
      exact ⟨-1, rfl, .inl rfl, HB.out⟩
  · rw [if_neg h0]
    go_wp2
    go_ret
    exact ⟨-1, rfl, .inl rfl, HB.out⟩
set_option maxRecDepth 100000 in
set_option maxHeartbeats 4000000 in
theorem szKm (k : KH) (K : KX) (M : Int) (M0 : 0 ≤ M) (M1 : M ≤ 1048576) (w : World) (h : RdK w k K) (hm : LimK k K) :
    Calls Try.prog 23 #[KerV k K, .int .i64 M] w fun e w' => ∃ r : Int, e = .returned (.int .i64 r) ∧ (r = -1 ∨ (0 ≤ r ∧ r ≤ 1048576 ∧ SmK k K)) ∧ Below w.heap.size w w' := by
  obtain ⟨s, qA, cA, qP, cP, qL, cL, qO, cO, qE, cE⟩ := k
  obtain ⟨X, A, P, L, O, tu, sp, E⟩ := K
  have HX : Hid (RdK w ⟨s, qA, cA, qP, cP, qL, cL, qO, cO, qE, cE⟩ ⟨X, A, P, L, O, tu, sp, E⟩) := h
  have HM : Hid (LimK ⟨s, qA, cA, qP, cP, qL, cL, qO, cO, qE, cE⟩ ⟨X, A, P, L, O, tu, sp, E⟩) := hm
  obtain ⟨nA, hA⟩ : ∃ n, A.length = n := ⟨_, rfl⟩
  obtain ⟨nP, hP⟩ : ∃ n, P.length = n := ⟨_, rfl⟩
  obtain ⟨nL, hL⟩ : ∃ n, L.length = n := ⟨_, rfl⟩
  obtain ⟨nO, hO⟩ : ∃ n, O.length = n := ⟨_, rfl⟩
  obtain ⟨nE, hE⟩ : ∃ n, E.length = n := ⟨_, rfl⟩
  have HNA : Hid (A.length = nA) := hA
  have HNP : Hid (P.length = nP) := hP
  have HNL : Hid (L.length = nL) := hL
  have HNO : Hid (O.length = nO) := hO
  have HNE : Hid (E.length = nE) := hE
  have bA : nA ≤ 9223372036854775807 := by rw [← hA]; exact hm.a
  have bP : nP ≤ 9223372036854775807 := by rw [← hP]; exact hm.p
  have bL : nL ≤ 9223372036854775807 := by rw [← hL]; exact hm.l
  have bO : nO ≤ 9223372036854775807 := by rw [← hO]; exact hm.o
  have bE : nE ≤ 9223372036854775807 := by rw [← hE]; exact hm.e
  unfold KerV
  dsimp only
  rw [hA, hP, hL, hO, hE]
  have HI0 : Hid ((w.alloc (.cells #[.slice s.q0 s.n0 s.c0, .slice s.q1 s.n1 s.c1, .slice s.q2 s.n2 s.c2, .slice s.q3 s.n3 s.c3, .slice s.q4 s.n4 s.c4, .slice qA nA cA, .slice qP nP cP, .slice qL nL cL, .slice qO nO cO, .int .i64 tu, .bool sp, .slice qE nE cE] 86)).heap[w.heap.size]? = some (.cells #[.slice s.q0 s.n0 s.c0, .slice s.q1 s.n1 s.c1, .slice s.q2 s.n2 s.c2, .slice s.q3 s.n3 s.c3, .slice s.q4 s.n4 s.c4, .slice qA nA cA, .slice qP nP cP, .slice qL nL cL, .slice qO nO cO, .int .i64 tu, .bool sp, .slice qE nE cE] 86)) := heap_new w _
  have HB0 : Hid (Below w.heap.size w (w.alloc (.cells #[.slice s.q0 s.n0 s.c0, .slice s.q1 s.n1 s.c1, .slice s.q2 s.n2 s.c2, .slice s.q3 s.n3 s.c3, .slice s.q4 s.n4 s.c4, .slice qA nA cA, .slice qP nP cP, .slice qL nL cL, .slice qO nO cO, .int .i64 tu, .bool sp, .slice qE nE cE] 86))) := (Below.refl _ _).alloc (Nat.le_refl _) _
  clear h hm hA hP hL hO hE
  go_enter Try.func23, Try.ntmps23
  go_wp2_with fail
  refine (szSetMm s X M M0 M1 _ (HX.out.x.on HB0.out) HM.out.x).mono ?_
  rintro e w1 ⟨r1, rfl, hr1, hb1⟩
  have HB1 : Hid (Below w.heap.size w w1) := bel_on (Nat.le_refl _) HB0.out hb1
  have HI1 : Hid (w1.heap[w.heap.size]? = some (.cells #[.slice s.q0 s.n0 s.c0, .slice s.q1 s.n1 s.c1, .slice s.q2 s.n2 s.c2, .slice s.q3 s.n3 s.c3, .slice s.q4 s.n4 s.c4, .slice qA nA cA, .slice qP nP cP, .slice qL nL cL, .slice qO nO cO, .int .i64 tu, .bool sp, .slice qE nE cE] 86)) := row_on HI0.out hb1
  have k1 := box12_cells HI1.out
  clear hb1 HB0 HI0
  rcases hr1 with rfl | ⟨r10, r11, sm1⟩
  · go_wp2
    go_ret
    exact ⟨-1, rfl, .inl rfl, HB1.out⟩
  have SM1 : Hid (SmX s X) := sm1
  have g1 : ¬ r1 < 0 := by omega
  clear sm1
  go_wp2_with fail
  refine (C.szA qA nA cA r1 r10 r11 bA _).mono ?_
  by_cases h2 : (nA : Int) ≤ r1
  case neg =>
    rw [if_neg h2]
    rintro e w2 ⟨rfl, hb2⟩
    have HB2 : Hid (Below w.heap.size w w2) := bel_on (Nat.le_refl _) HB1.out hb2
    clear hb2 k1
    go_wp2
    go_ret
    exact ⟨-1, rfl, .inl rfl, HB2.out⟩
  rw [if_pos h2]
  rintro e w2 ⟨rfl, hb2⟩
  have HB2 : Hid (Below w.heap.size w w2) := bel_on (Nat.le_refl _) HB1.out hb2
  have HI2 : Hid (w2.heap[w.heap.size]? = some (.cells #[.slice s.q0 s.n0 s.c0, .slice s.q1 s.n1 s.c1, .slice s.q2 s.n2 s.c2, .slice s.q3 s.n3 s.c3, .slice s.q4 s.n4 s.c4, .slice qA nA cA, .slice qP nP cP, .slice qL nL cL, .slice qO nO cO, .int .i64 tu, .bool sp, .slice qE nE cE] 86)) := row_on HI1.out hb2
  have k2 := box12_cells HI2.out
  obtain ⟨r2, hr2⟩ : ∃ r, r1 - (nA : Int) = r := ⟨_, rfl⟩
  rw [hr2]
  have r20 : 0 ≤ r2 := by omega
  have r21 : r2 ≤ 1048576 := by omega
  have SA : Hid (nA ≤ 1048576) := (show nA ≤ 1048576 by omega)
  have g2 : ¬ r2 < 0 := by omega
  clear hb2 HB1 HI1 k1 hr2 h2 g1 r10 r11
  go_wp2_with fail
  refine (szPs qP P nP cP r2 r20 r21 HNP.out bP HM.out.ps _ (HX.out.p.on HB2.out)).mono ?_
  rintro e w3 ⟨r3, rfl, hr3, hb3⟩
  have HB3 : Hid (Below w.heap.size w w3) := bel_on (Nat.le_refl _) HB2.out hb3
  have HI3 : Hid (w3.heap[w.heap.size]? = some (.cells #[.slice s.q0 s.n0 s.c0, .slice s.q1 s.n1 s.c1, .slice s.q2 s.n2 s.c2, .slice s.q3 s.n3 s.c3, .slice s.q4 s.n4 s.c4, .slice qA nA cA, .slice qP nP cP, .slice qL nL cL, .slice qO nO cO, .int .i64 tu, .bool sp, .slice qE nE cE] 86)) := row_on HI2.out hb3
  have k3 := box12_cells HI3.out
  clear hb3 HB2 HI2 k2 g2
  rcases hr3 with rfl | ⟨r30, r31, p1, p2⟩
  · go_wp2
    go_ret
    exact ⟨-1, rfl, .inl rfl, HB3.out⟩
  have SP : Hid (nP ≤ 1048576 ∧ ∀ j (h : j < P.length), P[j].sk.length ≤ 1048576) := ⟨by omega, p2⟩
  have r32 : r3 ≤ 1048576 := by omega
  have g3 : ¬ r3 < 0 := by omega
  clear p1 p2 r31 r20 r21
  go_wp2_with fail
  refine (szLs qL L nL cL r3 r30 r32 HNL.out bL HM.out.ls _ (HX.out.l.on HB3.out)).mono ?_
  rintro e w4 ⟨r4, rfl, hr4, hb4⟩
  have HB4 : Hid (Below w.heap.size w w4) := bel_on (Nat.le_refl _) HB3.out hb4
  have HI4 : Hid (w4.heap[w.heap.size]? = some (.cells #[.slice s.q0 s.n0 s.c0, .slice s.q1 s.n1 s.c1, .slice s.q2 s.n2 s.c2, .slice s.q3 s.n3 s.c3, .slice s.q4 s.n4 s.c4, .slice qA nA cA, .slice qP nP cP, .slice qL nL cL, .slice qO nO cO, .int .i64 tu, .bool sp, .slice qE nE cE] 86)) := row_on HI3.out hb4
  have k4 := box12_cells HI4.out
  clear hb4 HB3 HI3 k3 g3
  rcases hr4 with rfl | ⟨r40, r41, p1, p2⟩
  · go_wp2
    go_ret
    exact ⟨-1, rfl, .inl rfl, HB4.out⟩
  have SL : Hid (nL ≤ 1048576 ∧ ∀ j (h : j < L.length), L[j].length ≤ 1048576) := ⟨by omega, p2⟩
  have r42 : r4 ≤ 1048576 := by omega
  have g4 : ¬ r4 < 0 := by omega
  clear p1 p2 r41 r30 r32
  go_wp2_with fail
  refine (C.szI qO nO cO r4 r40 r42 bO _).mono ?_
  by_cases h5 : (nO : Int) ≤ r4
  case neg =>
    rw [if_neg h5]
    rintro e w5 ⟨rfl, rfl⟩
    go_wp2
    go_ret
    exact ⟨-1, rfl, .inl rfl, HB4.out⟩
  rw [if_pos h5]
  rintro e w5 ⟨rfl, rfl⟩
  obtain ⟨r5, hr5⟩ : ∃ r, r4 - (nO : Int) = r := ⟨_, rfl⟩
  rw [hr5]
  have r50 : 0 ≤ r5 := by omega
  have r51 : r5 ≤ 1048576 := by omega
  have SO : Hid (nO ≤ 1048576) := (show nO ≤ 1048576 by omega)
  have g5 : ¬ r5 < 0 := by omega
  clear hr5 h5 g4 r40 r42
  go_wp2_with fail
  refine (szE11 qE nE cE r5 r50 r51 bE _).mono ?_
  by_cases h6 : (nE : Int) ≤ r5
  case neg =>
    rw [if_neg h6]
    rintro e w6 ⟨rfl, rfl⟩
    go_wp2
    go_ret
    exact ⟨-1, rfl, .inl rfl, HB4.out⟩
  rw [if_pos h6]
  rintro e w6 ⟨rfl, rfl⟩
  obtain ⟨r6, hr6⟩ : ∃ r, r5 - (nE : Int) = r := ⟨_, rfl⟩
  rw [hr6]
  have r60 : 0 ≤ r6 := by omega
  have r61 : r6 ≤ 1048576 := by omega
  have SE : Hid (nE ≤ 1048576) := (show nE ≤ 1048576 by omega)
  have g6 : ¬ r6 < 0 := by omega
  have HSM : Hid (SmK ⟨s, qA, cA, qP, cP, qL, cL, qO, cO, qE, cE⟩ ⟨X, A, P, L, O, tu, sp, E⟩) := ⟨SM1.out, by show A.length ≤ _; rw [HNA.out]; exact SA.out, by show P.length ≤ _; rw [HNP.out]; exact SP.out.1, SP.out.2, by show L.length ≤ _; rw [HNL.out]; exact SL.out.1, SL.out.2, by show O.length ≤ _; rw [HNO.out]; exact SO.out, by show E.length ≤ _; rw [HNE.out]; exact SE.out⟩
  clear hr6 h6 g5 r50 r51 SM1 SA SP SL SO SE HNA HNP HNL HNO HNE HX HM
  go_wp2
  go_ret
  exact ⟨r6, rfl, .inr ⟨r60, r61, HSM.out⟩, HB4.out⟩
end Go.Proofs.Ytfdhcchakoldpaa
