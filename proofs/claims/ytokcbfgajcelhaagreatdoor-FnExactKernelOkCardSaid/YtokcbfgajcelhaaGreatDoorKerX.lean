/-
  A kernel is sized.
-/
import Derived.Test.YtokcbfgajcelhaaGreatDoorKer
import Derived.Test.YtokcbfgajcelhaaGreatDoorLineW
import Derived.Test.YtokcbfgajcelhaaGreatDoorAsX
import Derived.Test.YtokcbfgajcelhaaGreatDoorRows
import Derived.Lib.LaidTab
import Derived.OpenShut
import Derived.LaidHandle
import Derived.LaidLaws
import Derived.Stop.Joined
namespace Go.Proofs.YtokcbfgajcelhaaGreatDoor
open Go.ChangeShapes Go.WideShapes Go.ChangeAt Go.RowKit Go.PlainAid
set_option linter.unusedVariables false

set_option maxRecDepth 100000 in
set_option maxHeartbeats 2000000 in
theorem szSetM (s : SH) (X : SX) (w : World) (h : RdX w s X) (hm : LimX s X) :
    Calls Tryz.prog 36 #[SetV s, .int .i64 1048576] w fun e w' => ∃ r : Int, e = .returned (.int .i64 r) ∧ (r = -1 ∨ (0 ≤ r ∧ r ≤ 1048576 ∧ SmX s X)) ∧ Below w.heap.size w w' := by
  have HX : Hid (RdX w s X) := h
  have HM : Hid (LimX s X) := hm
  have HB : Hid (Below w.heap.size w (w.alloc (.cells #[.slice s.q0 s.n0 s.c0, .slice s.q1 s.n1 s.c1, .slice s.q2 s.n2 s.c2, .slice s.q3 s.n3 s.c3, .slice s.q4 s.n4 s.c4] 85))) := (Below.refl _ _).alloc (Nat.le_refl _) _
  have m0 := hm.n0
  have m1 := hm.n1
  have m2 := hm.n2
  have m3 := hm.n3
  have m4 := hm.n4
  clear h hm
  unfold SetV
  go_enter Tryz.func36, Tryz.ntmps36
  go_wp2_with fail
  refine (szR11 s.q0 s.n0 s.c0 ((1048576 : Int)) (by omega) (by omega) m0 _).mono ?_
  rintro e w0 ⟨rfl, rfl⟩
  by_cases h0 : (s.n0 : Int) ≤ (1048576 : Int)
  · rw [if_pos h0]
    have g0 : ¬ (1048576 : Int) - s.n0 < 0 := by omega
    go_wp2_with fail
    refine (szW11 s.q1 s.n1 s.c1 ((1048576 : Int) - s.n0) (by omega) (by omega) m1 _).mono ?_
    rintro e w1 ⟨rfl, rfl⟩
    by_cases h1 : (s.n1 : Int) ≤ (1048576 : Int) - s.n0
    · rw [if_pos h1]
      have g1 : ¬ (1048576 : Int) - s.n0 - s.n1 < 0 := by omega
      go_wp2_with fail
      refine (szO11 s.q2 s.n2 s.c2 ((1048576 : Int) - s.n0 - s.n1) (by omega) (by omega) m2 _).mono ?_
      rintro e w2 ⟨rfl, rfl⟩
      by_cases h2 : (s.n2 : Int) ≤ (1048576 : Int) - s.n0 - s.n1
      · rw [if_pos h2]
        have g2 : ¬ (1048576 : Int) - s.n0 - s.n1 - s.n2 < 0 := by omega
        go_wp2_with fail
        refine (szU11 s.q3 s.n3 s.c3 ((1048576 : Int) - s.n0 - s.n1 - s.n2) (by omega) (by omega) m3 _).mono ?_
        rintro e w3 ⟨rfl, rfl⟩
        by_cases h3 : (s.n3 : Int) ≤ (1048576 : Int) - s.n0 - s.n1 - s.n2
        · rw [if_pos h3]
          have g3 : ¬ (1048576 : Int) - s.n0 - s.n1 - s.n2 - s.n3 < 0 := by omega
          obtain ⟨r, hr⟩ : ∃ r : Int, r = if (s.n4 : Int) + S.bytesS X.S ≤ (1048576 : Int) - s.n0 - s.n1 - s.n2 - s.n3 then (1048576 : Int) - s.n0 - s.n1 - s.n2 - s.n3 - s.n4 - S.bytesS X.S else -1 := ⟨_, rfl⟩
          have HR : Hid (r = -1 ∨ (0 ≤ r ∧ r ≤ 1048576 ∧ SmX s X)) := by
            by_cases hc : (s.n4 : Int) + S.bytesS X.S ≤ (1048576 : Int) - s.n0 - s.n1 - s.n2 - s.n3
            · rw [if_pos hc] at hr
              exact .inr ⟨by omega, by omega, ⟨by omega, by omega, by omega, by omega, by omega, by omega⟩⟩
            · rw [if_neg hc] at hr
              exact .inl hr
          have HRr : Hid (r = if (s.n4 : Int) + S.bytesS X.S ≤ (1048576 : Int) - s.n0 - s.n1 - s.n2 - s.n3 then (1048576 : Int) - s.n0 - s.n1 - s.n2 - s.n3 - s.n4 - S.bytesS X.S else -1) := hr
          clear hr
          go_wp2_with fail
          refine (S.szSs s.q4 X.S s.n4 s.c4 ((1048576 : Int) - s.n0 - s.n1 - s.n2 - s.n3) r (by omega) (by omega) HX.out.l4 m4 HM.out.z HRr.out _ (HX.out.on HB.out).r4).mono ?_
          rintro e w4 ⟨rfl, rfl⟩
          clear HRr
          by_cases hn : r < 0
          · have HE : Hid (r = -1) := by rcases HR.out with h' | h'; exact h'; omega
            go_wp2
            go_ret
            exact ⟨-1, rfl, .inl rfl, HB.out⟩
          · go_wp2
            go_ret
            exact ⟨r, rfl, HR.out, HB.out⟩
        · rw [if_neg h3]
          go_wp2
          go_ret
          exact ⟨-1, rfl, .inl rfl, HB.out⟩
      · rw [if_neg h2]
        go_wp2
        go_ret
        exact ⟨-1, rfl, .inl rfl, HB.out⟩
    · rw [if_neg h1]
      go_wp2
      go_ret
      exact ⟨-1, rfl, .inl rfl, HB.out⟩
  · rw [if_neg h0]
    go_wp2
    go_ret
    exact ⟨-1, rfl, .inl rfl, HB.out⟩
set_option maxRecDepth 100000 in
set_option maxHeartbeats 4000000 in
theorem szK (k : KH) (K : KX) (w : World) (h : RdK w k K) (hm : LimK k K) :
    Calls Tryz.prog 44 #[KerV k K, .int .i64 1048576] w fun e w' => ∃ r : Int, e = .returned (.int .i64 r) ∧ (r = -1 ∨ (0 ≤ r ∧ SmK k K)) ∧ Below w.heap.size w w' := by
  obtain ⟨s, qA, cA, qP, cP, qL, cL, qO, cO, qE, cE⟩ := k
  obtain ⟨X, A, P, L, O, tu, sp, E⟩ := K
  have HX : Hid (RdK w ⟨s, qA, cA, qP, cP, qL, cL, qO, cO, qE, cE⟩ ⟨X, A, P, L, O, tu, sp, E⟩) := h
  have HM : Hid (LimK ⟨s, qA, cA, qP, cP, qL, cL, qO, cO, qE, cE⟩ ⟨X, A, P, L, O, tu, sp, E⟩) := hm
  obtain ⟨nA, hA⟩ : ∃ n, A.length = n := ⟨_, rfl⟩
  obtain ⟨nP, hP⟩ : ∃ n, P.length = n := ⟨_, rfl⟩
  obtain ⟨nL, hL⟩ : ∃ n, L.length = n := ⟨_, rfl⟩
  obtain ⟨nO, hO⟩ : ∃ n, O.length = n := ⟨_, rfl⟩
  obtain ⟨nE, hE⟩ : ∃ n, E.length = n := ⟨_, rfl⟩
  have HNA : Hid (A.length = nA) := hA
  have HNP : Hid (P.length = nP) := hP
  have HNL : Hid (L.length = nL) := hL
  have HNO : Hid (O.length = nO) := hO
  have HNE : Hid (E.length = nE) := hE
  have bA : nA ≤ 9223372036854775807 := by rw [← hA]; exact hm.a
  have bP : nP ≤ 9223372036854775807 := by rw [← hP]; exact hm.p
  have bL : nL ≤ 9223372036854775807 := by rw [← hL]; exact hm.l
  have bO : nO ≤ 9223372036854775807 := by rw [← hO]; exact hm.o
  have bE : nE ≤ 9223372036854775807 := by rw [← hE]; exact hm.e
  unfold KerV
  dsimp only
  rw [hA, hP, hL, hO, hE]
  have HI0 : Hid ((w.alloc (.cells #[.slice s.q0 s.n0 s.c0, .slice s.q1 s.n1 s.c1, .slice s.q2 s.n2 s.c2, .slice s.q3 s.n3 s.c3, .slice s.q4 s.n4 s.c4, .slice qA nA cA, .slice qP nP cP, .slice qL nL cL, .slice qO nO cO, .int .i64 tu, .bool sp, .slice qE nE cE] 97)).heap[w.heap.size]? = some (.cells #[.slice s.q0 s.n0 s.c0, .slice s.q1 s.n1 s.c1, .slice s.q2 s.n2 s.c2, .slice s.q3 s.n3 s.c3, .slice s.q4 s.n4 s.c4, .slice qA nA cA, .slice qP nP cP, .slice qL nL cL, .slice qO nO cO, .int .i64 tu, .bool sp, .slice qE nE cE] 97)) := heap_new w _
  have HB0 : Hid (Below w.heap.size w (w.alloc (.cells #[.slice s.q0 s.n0 s.c0, .slice s.q1 s.n1 s.c1, .slice s.q2 s.n2 s.c2, .slice s.q3 s.n3 s.c3, .slice s.q4 s.n4 s.c4, .slice qA nA cA, .slice qP nP cP, .slice qL nL cL, .slice qO nO cO, .int .i64 tu, .bool sp, .slice qE nE cE] 97))) := (Below.refl _ _).alloc (Nat.le_refl _) _
  clear h hm hA hP hL hO hE
  go_enter Tryz.func44, Tryz.ntmps44
  go_wp2_with fail
  refine (szSetM s X _ (HX.out.x.on HB0.out) HM.out.x).mono ?_
  rintro e w1 ⟨r1, rfl, hr1, hb1⟩
  have HB1 : Hid (Below w.heap.size w w1) := bel_on (Nat.le_refl _) HB0.out hb1
  have HI1 : Hid (w1.heap[w.heap.size]? = some (.cells #[.slice s.q0 s.n0 s.c0, .slice s.q1 s.n1 s.c1, .slice s.q2 s.n2 s.c2, .slice s.q3 s.n3 s.c3, .slice s.q4 s.n4 s.c4, .slice qA nA cA, .slice qP nP cP, .slice qL nL cL, .slice qO nO cO, .int .i64 tu, .bool sp, .slice qE nE cE] 97)) := row_on HI0.out hb1
  have k1 := box12_cells HI1.out
  clear hb1 HB0 HI0
  rcases hr1 with rfl | ⟨r10, r11, sm1⟩
  · go_wp2
    go_ret
    exact ⟨-1, rfl, .inl rfl, HB1.out⟩
  have SM1 : Hid (SmX s X) := sm1
  have g1 : ¬ r1 < 0 := by omega
  clear sm1
  go_wp2_with fail
  refine (C.szA qA nA cA r1 r10 r11 bA _).mono ?_
  by_cases h2 : (nA : Int) ≤ r1
  case neg =>
    rw [if_neg h2]
    rintro e w2 ⟨rfl, hb2⟩
    have HB2 : Hid (Below w.heap.size w w2) := bel_on (Nat.le_refl _) HB1.out hb2
    clear hb2 k1
    go_wp2
    go_ret
    exact ⟨-1, rfl, .inl rfl, HB2.out⟩
  rw [if_pos h2]
  rintro e w2 ⟨rfl, hb2⟩
  have HB2 : Hid (Below w.heap.size w w2) := bel_on (Nat.le_refl _) HB1.out hb2
  have HI2 : Hid (w2.heap[w.heap.size]? = some (.cells #[.slice s.q0 s.n0 s.c0, .slice s.q1 s.n1 s.c1, .slice s.q2 s.n2 s.c2, .slice s.q3 s.n3 s.c3, .slice s.q4 s.n4 s.c4, .slice qA nA cA, .slice qP nP cP, .slice qL nL cL, .slice qO nO cO, .int .i64 tu, .bool sp, .slice qE nE cE] 97)) := row_on HI1.out hb2
  have k2 := box12_cells HI2.out
  obtain ⟨r2, hr2⟩ : ∃ r, r1 - (nA : Int) = r := ⟨_, rfl⟩
  rw [hr2]
  have r20 : 0 ≤ r2 := by omega
  have r21 : r2 ≤ 1048576 := by omega
  have SA : Hid (nA ≤ 1048576) := (show nA ≤ 1048576 by omega)
  have g2 : ¬ r2 < 0 := by omega
  clear hb2 HB1 HI1 k1 hr2 h2 g1 r10 r11
  go_wp2_with fail
  refine (szPs qP P nP cP r2 r20 r21 HNP.out bP HM.out.ps _ (HX.out.p.on HB2.out)).mono ?_
  rintro e w3 ⟨r3, rfl, hr3, hb3⟩
  have HB3 : Hid (Below w.heap.size w w3) := bel_on (Nat.le_refl _) HB2.out hb3
  have HI3 : Hid (w3.heap[w.heap.size]? = some (.cells #[.slice s.q0 s.n0 s.c0, .slice s.q1 s.n1 s.c1, .slice s.q2 s.n2 s.c2, .slice s.q3 s.n3 s.c3, .slice s.q4 s.n4 s.c4, .slice qA nA cA, .slice qP nP cP, .slice qL nL cL, .slice qO nO cO, .int .i64 tu, .bool sp, .slice qE nE cE] 97)) := row_on HI2.out hb3
  have k3 := box12_cells HI3.out
  clear hb3 HB2 HI2 k2 g2
  rcases hr3 with rfl | ⟨r30, r31, p1, p2⟩
  · go_wp2
    go_ret
    exact ⟨-1, rfl, .inl rfl, HB3.out⟩
  have SP : Hid (nP ≤ 1048576 ∧ ∀ j (h : j < P.length), P[j].sk.length ≤ 1048576) := ⟨by omega, p2⟩
  have r32 : r3 ≤ 1048576 := by omega
  have g3 : ¬ r3 < 0 := by omega
  clear p1 p2 r31 r20 r21
  go_wp2_with fail
  refine (szLs qL L nL cL r3 r30 r32 HNL.out bL HM.out.ls _ (HX.out.l.on HB3.out)).mono ?_
  rintro e w4 ⟨r4, rfl, hr4, hb4⟩
  have HB4 : Hid (Below w.heap.size w w4) := bel_on (Nat.le_refl _) HB3.out hb4
  have HI4 : Hid (w4.heap[w.heap.size]? = some (.cells #[.slice s.q0 s.n0 s.c0, .slice s.q1 s.n1 s.c1, .slice s.q2 s.n2 s.c2, .slice s.q3 s.n3 s.c3, .slice s.q4 s.n4 s.c4, .slice qA nA cA, .slice qP nP cP, .slice qL nL cL, .slice qO nO cO, .int .i64 tu, .bool sp, .slice qE nE cE] 97)) := row_on HI3.out hb4
  have k4 := box12_cells HI4.out
  clear hb4 HB3 HI3 k3 g3
  rcases hr4 with rfl | ⟨r40, r41, p1, p2⟩
  · go_wp2
    go_ret
    exact ⟨-1, rfl, .inl rfl, HB4.out⟩
  have SL : Hid (nL ≤ 1048576 ∧ ∀ j (h : j < L.length), L[j].length ≤ 1048576) := ⟨by omega, p2⟩
  have r42 : r4 ≤ 1048576 := by omega
  have g4 : ¬ r4 < 0 := by omega
  clear p1 p2 r41 r30 r32
  go_wp2_with fail
  refine (C.szI qO nO cO r4 r40 r42 bO _).mono ?_
  by_cases h5 : (nO : Int) ≤ r4
  case neg =>
    rw [if_neg h5]
    rintro e w5 ⟨rfl, rfl⟩
    go_wp2
    go_ret
    exact ⟨-1, rfl, .inl rfl, HB4.out⟩
  rw [if_pos h5]
  rintro e w5 ⟨rfl, rfl⟩
  obtain ⟨r5, hr5⟩ : ∃ r, r4 - (nO : Int) = r := ⟨_, rfl⟩
  rw [hr5]
  have r50 : 0 ≤ r5 := by omega
  have r51 : r5 ≤ 1048576 := by omega
  have SO : Hid (nO ≤ 1048576) := (show nO ≤ 1048576 by omega)
  have g5 : ¬ r5 < 0 := by omega
  clear hr5 h5 g4 r40 r42
  go_wp2_with fail
  refine (szE11 qE nE cE r5 r50 r51 bE _).mono ?_
  by_cases h6 : (nE : Int) ≤ r5
  case neg =>
    rw [if_neg h6]
    rintro e w6 ⟨rfl, rfl⟩
    go_wp2
    go_ret
    exact ⟨-1, rfl, .inl rfl, HB4.out⟩
  rw [if_pos h6]
  rintro e w6 ⟨rfl, rfl⟩
  obtain ⟨r6, hr6⟩ : ∃ r, r5 - (nE : Int) = r := ⟨_, rfl⟩
  rw [hr6]
  have r60 : 0 ≤ r6 := by omega
  have SE : Hid (nE ≤ 1048576) := (show nE ≤ 1048576 by omega)
  have g6 : ¬ r6 < 0 := by omega
  have HSM : Hid (SmK ⟨s, qA, cA, qP, cP, qL, cL, qO, cO, qE, cE⟩ ⟨X, A, P, L, O, tu, sp, E⟩) := ⟨SM1.out, by show A.length ≤ _; rw [HNA.out]; exact SA.out, by show P.length ≤ _; rw [HNP.out]; exact SP.out.1, SP.out.2, by show L.length ≤ _; rw [HNL.out]; exact SL.out.1, SL.out.2, by show O.length ≤ _; rw [HNO.out]; exact SO.out, by show E.length ≤ _; rw [HNE.out]; exact SE.out⟩
  clear hr6 h6 g5 r50 r51 SM1 SA SP SL SO SE HNA HNP HNL HNO HNE HX HM
  go_wp2
  go_ret
  exact ⟨r6, rfl, .inr ⟨r60, HSM.out⟩, HB4.out⟩
end Go.Proofs.YtokcbfgajcelhaaGreatDoor

namespace Go.Proofs.YtokcbfgajcelhaaGreatDoor
open Go.ChangeShapes Go.WideShapes Go.ChangeAt Go.RowKit Go.PlainAid
set_option linter.unusedVariables false

set_option maxRecDepth 100000 in
set_option maxHeartbeats 8000000 in
theorem eqK (k k' : KH) (K : KX) (w : World) (h : RdK w k K) (h' : RdK w k' K) (hs : SmK k K) :
    Calls Tryz.prog 39 #[KerV k K, KerV k' K] w fun e w' => e = .returned (.bool true) ∧ Below w.heap.size w w' := by
  obtain ⟨s, qA, cA, qP, cP, qL, cL, qO, cO, qE, cE⟩ := k
  obtain ⟨X, A, P, L, O, tu, sp, E⟩ := K
  obtain ⟨u, bA, dA, bP, dP, bL, dL, bO, dO, bE, dE⟩ := k'
  have HX : Hid (RdK w ⟨s, qA, cA, qP, cP, qL, cL, qO, cO, qE, cE⟩ ⟨X, A, P, L, O, tu, sp, E⟩) := h
  have HY : Hid (RdK w ⟨u, bA, dA, bP, dP, bL, dL, bO, dO, bE, dE⟩ ⟨X, A, P, L, O, tu, sp, E⟩) := h'
  have HS : Hid (SmK ⟨s, qA, cA, qP, cP, qL, cL, qO, cO, qE, cE⟩ ⟨X, A, P, L, O, tu, sp, E⟩) := hs
  obtain ⟨nA, hA⟩ : ∃ n, A.length = n := ⟨_, rfl⟩
  obtain ⟨nP, hP⟩ : ∃ n, P.length = n := ⟨_, rfl⟩
  obtain ⟨nL, hL⟩ : ∃ n, L.length = n := ⟨_, rfl⟩
  obtain ⟨nO, hO⟩ : ∃ n, O.length = n := ⟨_, rfl⟩
  obtain ⟨nE, hE⟩ : ∃ n, E.length = n := ⟨_, rfl⟩
  have HNA : Hid (A.length = nA) := hA
  have HNP : Hid (P.length = nP) := hP
  have HNL : Hid (L.length = nL) := hL
  have HNO : Hid (O.length = nO) := hO
  have HNE : Hid (E.length = nE) := hE
  have mA : nA ≤ 1048576 := by rw [← hA]; exact hs.a
  have mP : nP ≤ 1048576 := by rw [← hP]; exact hs.p
  have mL : nL ≤ 1048576 := by rw [← hL]; exact hs.l
  have mO : nO ≤ 1048576 := by rw [← hO]; exact hs.o
  have mE : nE ≤ 1048576 := by rw [← hE]; exact hs.e
  unfold KerV
  dsimp only
  rw [hA, hP, hL, hO, hE]
  have HI0 : Hid (((w.alloc (.cells #[.slice s.q0 s.n0 s.c0, .slice s.q1 s.n1 s.c1, .slice s.q2 s.n2 s.c2, .slice s.q3 s.n3 s.c3, .slice s.q4 s.n4 s.c4, .slice qA nA cA, .slice qP nP cP, .slice qL nL cL, .slice qO nO cO, .int .i64 tu, .bool sp, .slice qE nE cE] 38)).alloc (.cells #[.slice u.q0 u.n0 u.c0, .slice u.q1 u.n1 u.c1, .slice u.q2 u.n2 u.c2, .slice u.q3 u.n3 u.c3, .slice u.q4 u.n4 u.c4, .slice bA nA dA, .slice bP nP dP, .slice bL nL dL, .slice bO nO dO, .int .i64 tu, .bool sp, .slice bE nE dE] 38)).heap[w.heap.size]? = some (.cells #[.slice s.q0 s.n0 s.c0, .slice s.q1 s.n1 s.c1, .slice s.q2 s.n2 s.c2, .slice s.q3 s.n3 s.c3, .slice s.q4 s.n4 s.c4, .slice qA nA cA, .slice qP nP cP, .slice qL nL cL, .slice qO nO cO, .int .i64 tu, .bool sp, .slice qE nE cE] 38)) := al2_1 w _ _
  have HJ0 : Hid (((w.alloc (.cells #[.slice s.q0 s.n0 s.c0, .slice s.q1 s.n1 s.c1, .slice s.q2 s.n2 s.c2, .slice s.q3 s.n3 s.c3, .slice s.q4 s.n4 s.c4, .slice qA nA cA, .slice qP nP cP, .slice qL nL cL, .slice qO nO cO, .int .i64 tu, .bool sp, .slice qE nE cE] 38)).alloc (.cells #[.slice u.q0 u.n0 u.c0, .slice u.q1 u.n1 u.c1, .slice u.q2 u.n2 u.c2, .slice u.q3 u.n3 u.c3, .slice u.q4 u.n4 u.c4, .slice bA nA dA, .slice bP nP dP, .slice bL nL dL, .slice bO nO dO, .int .i64 tu, .bool sp, .slice bE nE dE] 38)).heap[w.heap.size + 1]? = some (.cells #[.slice u.q0 u.n0 u.c0, .slice u.q1 u.n1 u.c1, .slice u.q2 u.n2 u.c2, .slice u.q3 u.n3 u.c3, .slice u.q4 u.n4 u.c4, .slice bA nA dA, .slice bP nP dP, .slice bL nL dL, .slice bO nO dO, .int .i64 tu, .bool sp, .slice bE nE dE] 38)) := al2_2 w _ _
  have HB0 : Hid (Below w.heap.size w ((w.alloc (.cells #[.slice s.q0 s.n0 s.c0, .slice s.q1 s.n1 s.c1, .slice s.q2 s.n2 s.c2, .slice s.q3 s.n3 s.c3, .slice s.q4 s.n4 s.c4, .slice qA nA cA, .slice qP nP cP, .slice qL nL cL, .slice qO nO cO, .int .i64 tu, .bool sp, .slice qE nE cE] 38)).alloc (.cells #[.slice u.q0 u.n0 u.c0, .slice u.q1 u.n1 u.c1, .slice u.q2 u.n2 u.c2, .slice u.q3 u.n3 u.c3, .slice u.q4 u.n4 u.c4, .slice bA nA dA, .slice bP nP dP, .slice bL nL dL, .slice bO nO dO, .int .i64 tu, .bool sp, .slice bE nE dE] 38))) := al2_b w _ _
  clear h h' hs hA hP hL hO hE
  go_enter Tryz.func39, Tryz.ntmps39
  go_wp2_with fail
  refine (eqSet s u X _ (HX.out.x.on HB0.out) (HY.out.x.on HB0.out) HS.out.x).mono ?_
  rintro e w1 ⟨rfl, hb1⟩
  have HB1 : Hid (Below w.heap.size w w1) := bel_on (Nat.le_refl _) HB0.out hb1
  have HI1 : Hid (w1.heap[w.heap.size]? = some (.cells #[.slice s.q0 s.n0 s.c0, .slice s.q1 s.n1 s.c1, .slice s.q2 s.n2 s.c2, .slice s.q3 s.n3 s.c3, .slice s.q4 s.n4 s.c4, .slice qA nA cA, .slice qP nP cP, .slice qL nL cL, .slice qO nO cO, .int .i64 tu, .bool sp, .slice qE nE cE] 38)) := row_on HI0.out hb1
  have HJ1 : Hid (w1.heap[w.heap.size + 1]? = some (.cells #[.slice u.q0 u.n0 u.c0, .slice u.q1 u.n1 u.c1, .slice u.q2 u.n2 u.c2, .slice u.q3 u.n3 u.c3, .slice u.q4 u.n4 u.c4, .slice bA nA dA, .slice bP nP dP, .slice bL nL dL, .slice bO nO dO, .int .i64 tu, .bool sp, .slice bE nE dE] 38)) := row_on HJ0.out hb1
  have kI1 := box12_cells HI1.out
  have kJ1 := box12_cells HJ1.out
  clear hb1 HB0 HI0 HJ0
  go_wp2_with fail
  refine (C.eqA qA bA A nA cA dA HNA.out mA _ (HX.out.a.keep HB1.out (Nat.le_refl _)) (HY.out.a.keep HB1.out (Nat.le_refl _))).mono ?_
  rintro e w2 ⟨rfl, hb2⟩
  have HB2 : Hid (Below w.heap.size w w2) := bel_on (Nat.le_refl _) HB1.out hb2
  have HI2 : Hid (w2.heap[w.heap.size]? = some (.cells #[.slice s.q0 s.n0 s.c0, .slice s.q1 s.n1 s.c1, .slice s.q2 s.n2 s.c2, .slice s.q3 s.n3 s.c3, .slice s.q4 s.n4 s.c4, .slice qA nA cA, .slice qP nP cP, .slice qL nL cL, .slice qO nO cO, .int .i64 tu, .bool sp, .slice qE nE cE] 38)) := row_on HI1.out hb2
  have HJ2 : Hid (w2.heap[w.heap.size + 1]? = some (.cells #[.slice u.q0 u.n0 u.c0, .slice u.q1 u.n1 u.c1, .slice u.q2 u.n2 u.c2, .slice u.q3 u.n3 u.c3, .slice u.q4 u.n4 u.c4, .slice bA nA dA, .slice bP nP dP, .slice bL nL dL, .slice bO nO dO, .int .i64 tu, .bool sp, .slice bE nE dE] 38)) := row_on HJ1.out hb2
  have kI2 := box12_cells HI2.out
  have kJ2 := box12_cells HJ2.out
  clear hb2 HB1 HI1 HJ1 kI1 kJ1
  go_wp2_with fail
  refine (eqPs qP bP P nP cP dP HNP.out mP HS.out.ps _ (HX.out.p.on HB2.out) (HY.out.p.on HB2.out)).mono ?_
  rintro e w3 ⟨rfl, hb3⟩
  have HB3 : Hid (Below w.heap.size w w3) := bel_on (Nat.le_refl _) HB2.out hb3
  have HI3 : Hid (w3.heap[w.heap.size]? = some (.cells #[.slice s.q0 s.n0 s.c0, .slice s.q1 s.n1 s.c1, .slice s.q2 s.n2 s.c2, .slice s.q3 s.n3 s.c3, .slice s.q4 s.n4 s.c4, .slice qA nA cA, .slice qP nP cP, .slice qL nL cL, .slice qO nO cO, .int .i64 tu, .bool sp, .slice qE nE cE] 38)) := row_on HI2.out hb3
  have HJ3 : Hid (w3.heap[w.heap.size + 1]? = some (.cells #[.slice u.q0 u.n0 u.c0, .slice u.q1 u.n1 u.c1, .slice u.q2 u.n2 u.c2, .slice u.q3 u.n3 u.c3, .slice u.q4 u.n4 u.c4, .slice bA nA dA, .slice bP nP dP, .slice bL nL dL, .slice bO nO dO, .int .i64 tu, .bool sp, .slice bE nE dE] 38)) := row_on HJ2.out hb3
  have kI3 := box12_cells HI3.out
  have kJ3 := box12_cells HJ3.out
  clear hb3 HB2 HI2 HJ2 kI2 kJ2
  go_wp2_with fail
  refine (eqLs qL bL L nL cL dL HNL.out mL HS.out.ls _ (HX.out.l.on HB3.out) (HY.out.l.on HB3.out)).mono ?_
  rintro e w4 ⟨rfl, hb4⟩
  have HB4 : Hid (Below w.heap.size w w4) := bel_on (Nat.le_refl _) HB3.out hb4
  have HI4 : Hid (w4.heap[w.heap.size]? = some (.cells #[.slice s.q0 s.n0 s.c0, .slice s.q1 s.n1 s.c1, .slice s.q2 s.n2 s.c2, .slice s.q3 s.n3 s.c3, .slice s.q4 s.n4 s.c4, .slice qA nA cA, .slice qP nP cP, .slice qL nL cL, .slice qO nO cO, .int .i64 tu, .bool sp, .slice qE nE cE] 38)) := row_on HI3.out hb4
  have HJ4 : Hid (w4.heap[w.heap.size + 1]? = some (.cells #[.slice u.q0 u.n0 u.c0, .slice u.q1 u.n1 u.c1, .slice u.q2 u.n2 u.c2, .slice u.q3 u.n3 u.c3, .slice u.q4 u.n4 u.c4, .slice bA nA dA, .slice bP nP dP, .slice bL nL dL, .slice bO nO dO, .int .i64 tu, .bool sp, .slice bE nE dE] 38)) := row_on HJ3.out hb4
  have kI4 := box12_cells HI4.out
  have kJ4 := box12_cells HJ4.out
  clear hb4 HB3 HI3 HJ3 kI3 kJ3
  go_wp2_with fail
  refine (C.eqInts qO bO O nO cO dO HNO.out mO _ (HX.out.o.keep HB4.out (Nat.le_refl _)) (HY.out.o.keep HB4.out (Nat.le_refl _))).mono ?_
  rintro e w5 ⟨rfl, hb5⟩
  have HB5 : Hid (Below w.heap.size w w5) := bel_on (Nat.le_refl _) HB4.out hb5
  have HI5 : Hid (w5.heap[w.heap.size]? = some (.cells #[.slice s.q0 s.n0 s.c0, .slice s.q1 s.n1 s.c1, .slice s.q2 s.n2 s.c2, .slice s.q3 s.n3 s.c3, .slice s.q4 s.n4 s.c4, .slice qA nA cA, .slice qP nP cP, .slice qL nL cL, .slice qO nO cO, .int .i64 tu, .bool sp, .slice qE nE cE] 38)) := row_on HI4.out hb5
  have HJ5 : Hid (w5.heap[w.heap.size + 1]? = some (.cells #[.slice u.q0 u.n0 u.c0, .slice u.q1 u.n1 u.c1, .slice u.q2 u.n2 u.c2, .slice u.q3 u.n3 u.c3, .slice u.q4 u.n4 u.c4, .slice bA nA dA, .slice bP nP dP, .slice bL nL dL, .slice bO nO dO, .int .i64 tu, .bool sp, .slice bE nE dE] 38)) := row_on HJ4.out hb5
  have kI5 := box12_cells HI5.out
  have kJ5 := box12_cells HJ5.out
  clear hb5 HB4 HI4 HJ4 kI4 kJ4
  go_wp2_with fail
  refine (eqEs qE bE E nE cE dE HNE.out mE _ (HX.out.e.on HB5.out) (HY.out.e.on HB5.out)).mono ?_
  rintro e w6 ⟨rfl, hb6⟩
  have HB6 : Hid (Below w.heap.size w w6) := bel_on (Nat.le_refl _) HB5.out hb6
  have HI6 : Hid (w6.heap[w.heap.size]? = some (.cells #[.slice s.q0 s.n0 s.c0, .slice s.q1 s.n1 s.c1, .slice s.q2 s.n2 s.c2, .slice s.q3 s.n3 s.c3, .slice s.q4 s.n4 s.c4, .slice qA nA cA, .slice qP nP cP, .slice qL nL cL, .slice qO nO cO, .int .i64 tu, .bool sp, .slice qE nE cE] 38)) := row_on HI5.out hb6
  have HJ6 : Hid (w6.heap[w.heap.size + 1]? = some (.cells #[.slice u.q0 u.n0 u.c0, .slice u.q1 u.n1 u.c1, .slice u.q2 u.n2 u.c2, .slice u.q3 u.n3 u.c3, .slice u.q4 u.n4 u.c4, .slice bA nA dA, .slice bP nP dP, .slice bL nL dL, .slice bO nO dO, .int .i64 tu, .bool sp, .slice bE nE dE] 38)) := row_on HJ5.out hb6
  have kI6 := box12_cells HI6.out
  have kJ6 := box12_cells HJ6.out
  clear hb6 HB5 HI5 HJ5 kI5 kJ5
  go_wp2
  go_ret
  exact ⟨rfl, HB6.out⟩
end Go.Proofs.YtokcbfgajcelhaaGreatDoor

namespace Go.Proofs.YtokcbfgajcelhaaGreatDoor
open Go.ChangeShapes Go.WideShapes Go.ChangeAt Go.RowKit Go.PlainAid
set_option linter.unusedVariables false

structure LWK (w W : World) (kA kB : Nat) (oA oB : Obj) (k : KH) (K : KX) : Prop where
  b : Below w.heap.size w W
  a : W.heap[kA]? = some oA
  bb : W.heap[kB]? = some oB
  x : RdK W k K
theorem LWK.on' {w W W' : World} {kA kB : Nat} {oA oB : Obj} {k : KH} {K : KX} (hb : Below W.heap.size W W') (h : LWK w W kA kB oA oB k K) : LWK w W' kA kB oA oB k K :=
  ⟨bel_on (Nat.le_refl _) h.b hb, row_on h.a hb, row_on h.bb hb, h.x.on hb⟩
theorem LWK.drew {w W : World} {kA kB : Nat} {oA oB : Obj} {k : KH} {K : KX} (h : LWK w W kA kB oA oB k K) : LWK w W.drew kA kB oA oB k K :=
  h.on' ((Below.refl _ _).drew)
theorem lwk_conj {w W : World} {kA kB : Nat} {tA tB : TypeId} {x0 x1 x2 x3 x4 x5 x6 x7 x8 x9 x10 x11 y0 y1 y2 y3 y4 y5 y6 y7 y8 y9 y10 y11 : Value} {k : KH} {K : KX} (h : LWK w W kA kB (.cells #[x0, x1, x2, x3, x4, x5, x6, x7, x8, x9, x10, x11] tA) (.cells #[y0, y1, y2, y3, y4, y5, y6, y7, y8, y9, y10, y11] tB) k K) : W.cell? ⟨kA, 0, none⟩ = some x0 ∧ W.cell? ⟨kA, 1, none⟩ = some x1 ∧ W.cell? ⟨kA, 2, none⟩ = some x2 ∧ W.cell? ⟨kA, 3, none⟩ = some x3 ∧ W.cell? ⟨kA, 4, none⟩ = some x4 ∧ W.cell? ⟨kA, 5, none⟩ = some x5 ∧ W.cell? ⟨kA, 6, none⟩ = some x6 ∧ W.cell? ⟨kA, 7, none⟩ = some x7 ∧ W.cell? ⟨kA, 8, none⟩ = some x8 ∧ W.cell? ⟨kA, 9, none⟩ = some x9 ∧ W.cell? ⟨kA, 10, none⟩ = some x10 ∧ W.cell? ⟨kA, 11, none⟩ = some x11 ∧ W.cell? ⟨kB, 0, none⟩ = some y0 ∧ W.cell? ⟨kB, 1, none⟩ = some y1 ∧ W.cell? ⟨kB, 2, none⟩ = some y2 ∧ W.cell? ⟨kB, 3, none⟩ = some y3 ∧ W.cell? ⟨kB, 4, none⟩ = some y4 ∧ W.cell? ⟨kB, 5, none⟩ = some y5 ∧ W.cell? ⟨kB, 6, none⟩ = some y6 ∧ W.cell? ⟨kB, 7, none⟩ = some y7 ∧ W.cell? ⟨kB, 8, none⟩ = some y8 ∧ W.cell? ⟨kB, 9, none⟩ = some y9 ∧ W.cell? ⟨kB, 10, none⟩ = some y10 ∧ W.cell? ⟨kB, 11, none⟩ = some y11 ∧ LWK w W kA kB (.cells #[x0, x1, x2, x3, x4, x5, x6, x7, x8, x9, x10, x11] tA) (.cells #[y0, y1, y2, y3, y4, y5, y6, y7, y8, y9, y10, y11] tB) k K := by
  have h1 := box12_cells h.a
  have h2 := box12_cells h.bb
  exact ⟨h1.1.1, h1.1.2.1, h1.1.2.2.1, h1.1.2.2.2.1, h1.1.2.2.2.2.1, h1.1.2.2.2.2.2.1, h1.1.2.2.2.2.2.2.1, h1.1.2.2.2.2.2.2.2.1, h1.1.2.2.2.2.2.2.2.2.1, h1.1.2.2.2.2.2.2.2.2.2.1, h1.1.2.2.2.2.2.2.2.2.2.2.1, h1.1.2.2.2.2.2.2.2.2.2.2.2, h2.1.1, h2.1.2.1, h2.1.2.2.1, h2.1.2.2.2.1, h2.1.2.2.2.2.1, h2.1.2.2.2.2.2.1, h2.1.2.2.2.2.2.2.1, h2.1.2.2.2.2.2.2.2.1, h2.1.2.2.2.2.2.2.2.2.1, h2.1.2.2.2.2.2.2.2.2.2.1, h2.1.2.2.2.2.2.2.2.2.2.2.1, h2.1.2.2.2.2.2.2.2.2.2.2.2, h⟩
theorem lwk_of {w W : World} {kA kB : Nat} {oA oB : Obj} {k : KH} {K : KX} {P0 P1 P2 P3 P4 P5 P6 P7 P8 P9 P10 P11 P12 P13 P14 P15 P16 P17 P18 P19 P20 P21 P22 P23 : Prop} (h : P0 ∧ P1 ∧ P2 ∧ P3 ∧ P4 ∧ P5 ∧ P6 ∧ P7 ∧ P8 ∧ P9 ∧ P10 ∧ P11 ∧ P12 ∧ P13 ∧ P14 ∧ P15 ∧ P16 ∧ P17 ∧ P18 ∧ P19 ∧ P20 ∧ P21 ∧ P22 ∧ P23 ∧ LWK w W kA kB oA oB k K) : LWK w W kA kB oA oB k K := h.2.2.2.2.2.2.2.2.2.2.2.2.2.2.2.2.2.2.2.2.2.2.2.2
end Go.Proofs.YtokcbfgajcelhaaGreatDoor

namespace Go.Proofs.YtokcbfgajcelhaaGreatDoor
open Go.ChangeShapes Go.WideShapes Go.ChangeAt Go.RowKit

theorem h_et : Tryz.prog.globalNamed "errors.errorType" = some 0 := by kernel_rfl
theorem h_oneRow : ((List.range 397).filter fun t => Tryz.prog.rowNamed t [101, 114, 114, 111, 114]) = [199] := by kernel_rfl
theorem h_size : Tryz.prog.types.size = 397 := by kernel_rfl
theorem handle_of {W : World} (h : laidMetH Tryz.prog [("errors.errorType", Rows.laid_errors_errorType)] W) : Hnd W := by
  have h' : laidMet Tryz.prog [] W ∧ handlesMet Tryz.prog [("errors.errorType", Rows.laid_errors_errorType)] W := h
  obtain ⟨name, u, ty, e1, e2, e3, e4, e5⟩ := h'.2 _ (List.mem_singleton.2 rfl)
  have en : name = [101, 114, 114, 111, 114] := (Option.some.inj e1).symm
  subst en
  have hu : some u = some 314 := e2.symm.trans (by kernel_rfl)
  obtain rfl := (Option.some.inj hu).symm
  have hm : ty ∈ (List.range 397).filter fun t => Tryz.prog.rowNamed t [101, 114, 114, 111, 114] := List.mem_filter.2 ⟨List.mem_range.2 (by rw [← h_size]; exact e3), e4⟩
  rw [h_oneRow] at hm
  obtain rfl := List.mem_singleton.1 hm
  have hh : typeHandle Tryz.prog 199 = .pointer (some ⟨1, 199, none⟩) := by kernel_rfl
  rw [hh] at e5
  show W.cell? _ = _
  simpa using World.var?_cell h_et e5 0
def setRowH (cs : Array Value) : Obj → Obj
  | .cells _ t frozen => .cells cs t frozen
  | o => o
/-- a world whose variable holds the handle -/
def layH (w : World) : World := { w with heap := w.heap.modify 0 (setRowH #[.iface 314 (.agg #[.pointer (some ⟨1, 199, none⟩)])]) }
end Go.Proofs.YtokcbfgajcelhaaGreatDoor
