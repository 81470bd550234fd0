/-
  The walk of FnExactKernelOk.
-/
import Derived.Test.YtokcbfgajcelhaaGreatDoorKOkS
import Derived.Test.YtokcbfgajcelhaaGreatDoorKOkI
import Derived.Test.YtokcbfgajcelhaaGreatDoorKerX
import Derived.Test.YtokcbfgajcelhaaGreatDoorKerT
namespace Go.Proofs.YtokcbfgajcelhaaGreatDoor.fnExactKernelOk
open Go.ChangeShapes Go.WideShapes Go.ChangeAt Go.RowKit Go.PlainAid
set_option linter.unusedVariables false

set_option maxRecDepth 100000 in
set_option maxHeartbeats 8000000 in
theorem walk (k : KH) (K : KX) (w : World) (h : IsKer w k K) (hg : Hnd w) :
    Calls Tryz.prog 13 #[KerV k K] w fun e w' => e = .returned (.bool true) ∧ Below w.heap.size w w' := by
  obtain ⟨s, qA, cA, qP, cP, qL, cL, qO, cO, qE, cE⟩ := k
  obtain ⟨X, A, P, L, O, tu, sp, E⟩ := K
  have HX : Hid (IsKer w ⟨s, qA, cA, qP, cP, qL, cL, qO, cO, qE, cE⟩ ⟨X, A, P, L, O, tu, sp, E⟩) := h
  have HG : Hid (Hnd w) := hg
  obtain ⟨nA, hA⟩ : ∃ n, A.length = n := ⟨_, rfl⟩
  obtain ⟨nP, hP⟩ : ∃ n, P.length = n := ⟨_, rfl⟩
  obtain ⟨nL, hL⟩ : ∃ n, L.length = n := ⟨_, rfl⟩
  obtain ⟨nO, hO⟩ : ∃ n, O.length = n := ⟨_, rfl⟩
  obtain ⟨nE, hE⟩ : ∃ n, E.length = n := ⟨_, rfl⟩
  have HNA : Hid (A.length = nA) := hA
  have HNP : Hid (P.length = nP) := hP
  have HNL : Hid (L.length = nL) := hL
  have HNO : Hid (O.length = nO) := hO
  have HNE : Hid (E.length = nE) := hE
  unfold KerV
  dsimp only
  rw [hA, hP, hL, hO, hE]
  have EV : Hid (KerV ⟨s, qA, cA, qP, cP, qL, cL, qO, cO, qE, cE⟩ ⟨X, A, P, L, O, tu, sp, E⟩ = .agg #[.slice s.q0 s.n0 s.c0, .slice s.q1 s.n1 s.c1, .slice s.q2 s.n2 s.c2, .slice s.q3 s.n3 s.c3, .slice s.q4 s.n4 s.c4, .slice qA nA cA, .slice qP nP cP, .slice qL nL cL, .slice qO nO cO, .int .i64 tu, .bool sp, .slice qE nE cE]) := by show KerV _ _ = _; unfold KerV; dsimp only; rw [hA, hP, hL, hO, hE]
  have HWa : Hid (Below w.heap.size w (w.alloc (.cells #[.slice s.q0 s.n0 s.c0, .slice s.q1 s.n1 s.c1, .slice s.q2 s.n2 s.c2, .slice s.q3 s.n3 s.c3, .slice s.q4 s.n4 s.c4, .slice qA nA cA, .slice qP nP cP, .slice qL nL cL, .slice qO nO cO, .int .i64 tu, .bool sp, .slice qE nE cE] 97))) := (Below.refl _ _).alloc (Nat.le_refl _) _
  have HAa : Hid ((w.alloc (.cells #[.slice s.q0 s.n0 s.c0, .slice s.q1 s.n1 s.c1, .slice s.q2 s.n2 s.c2, .slice s.q3 s.n3 s.c3, .slice s.q4 s.n4 s.c4, .slice qA nA cA, .slice qP nP cP, .slice qL nL cL, .slice qO nO cO, .int .i64 tu, .bool sp, .slice qE nE cE] 97)).heap[w.heap.size]? = some (.cells #[.slice s.q0 s.n0 s.c0, .slice s.q1 s.n1 s.c1, .slice s.q2 s.n2 s.c2, .slice s.q3 s.n3 s.c3, .slice s.q4 s.n4 s.c4, .slice qA nA cA, .slice qP nP cP, .slice qL nL cL, .slice qO nO cO, .int .i64 tu, .bool sp, .slice qE nE cE] 97)) := heap_new w _
  have szC := fun W hr => szK ⟨s, qA, cA, qP, cP, qL, cL, qO, cO, qE, cE⟩ ⟨X, A, P, L, O, tu, sp, E⟩ W hr HX.out.lim
  rw [EV.out] at szC
  have SZ : Hid (∀ W, RdK W ⟨s, qA, cA, qP, cP, qL, cL, qO, cO, qE, cE⟩ ⟨X, A, P, L, O, tu, sp, E⟩ → Calls Tryz.prog 44 #[.agg #[.slice s.q0 s.n0 s.c0, .slice s.q1 s.n1 s.c1, .slice s.q2 s.n2 s.c2, .slice s.q3 s.n3 s.c3, .slice s.q4 s.n4 s.c4, .slice qA nA cA, .slice qP nP cP, .slice qL nL cL, .slice qO nO cO, .int .i64 tu, .bool sp, .slice qE nE cE], .int .i64 1048576] W fun e w' => ∃ r : Int, e = .returned (.int .i64 r) ∧ (r = -1 ∨ (0 ≤ r ∧ SmK ⟨s, qA, cA, qP, cP, qL, cL, qO, cO, qE, cE⟩ ⟨X, A, P, L, O, tu, sp, E⟩)) ∧ Below W.heap.size W w') := szC
  clear h hg hA hP hL hO hE szC
  go_enter Tryz.func13, Tryz.ntmps13
  have kpa := box12_cells HAa.out
  go_wp2_with fail
  refine (SZ.out _ (HX.out.rd.keep HWa.out (Nat.le_refl _))).mono ?_
  rintro e w0 ⟨r, rfl, hr, hb0⟩
  have HW0 : Hid (Below w.heap.size w w0) := bel_on (Nat.le_refl _) HWa.out hb0
  have HA0 : Hid (w0.heap[w.heap.size]? = some (.cells #[.slice s.q0 s.n0 s.c0, .slice s.q1 s.n1 s.c1, .slice s.q2 s.n2 s.c2, .slice s.q3 s.n3 s.c3, .slice s.q4 s.n4 s.c4, .slice qA nA cA, .slice qP nP cP, .slice qL nL cL, .slice qO nO cO, .int .i64 tu, .bool sp, .slice qE nE cE] 97)) := row_on HAa.out hb0
  have kp0 := box12_cells HA0.out
  clear HWa HAa kpa
  clear hb0 SZ
  rcases hr with rfl | ⟨hr0, hs⟩
  · go_wp2
    go_ret
    exact ⟨rfl, HW0.out⟩
  have HS : Hid (SmK ⟨s, qA, cA, qP, cP, qL, cL, qO, cO, qE, cE⟩ ⟨X, A, P, L, O, tu, sp, E⟩) := hs
  have hr1 : ¬ r < 0 := by omega
  have toC := fun W hr => toK ⟨s, qA, cA, qP, cP, qL, cL, qO, cO, qE, cE⟩ ⟨X, A, P, L, O, tu, sp, E⟩ W hr hs
  rw [EV.out] at toC
  have TK : Hid (∀ W, RdK W ⟨s, qA, cA, qP, cP, qL, cL, qO, cO, qE, cE⟩ ⟨X, A, P, L, O, tu, sp, E⟩ → Calls Tryz.prog 45 #[.agg #[.slice s.q0 s.n0 s.c0, .slice s.q1 s.n1 s.c1, .slice s.q2 s.n2 s.c2, .slice s.q3 s.n3 s.c3, .slice s.q4 s.n4 s.c4, .slice qA nA cA, .slice qP nP cP, .slice qL nL cL, .slice qO nO cO, .int .i64 tu, .bool sp, .slice qE nE cE]] W fun e w' => ∃ k', e = .returned (KerV k' ⟨X, A, P, L, O, tu, sp, E⟩) ∧ OwnK w' W.heap.size k' ⟨X, A, P, L, O, tu, sp, E⟩ ∧ Below W.heap.size W w') := toC
  clear hs hr0 toC
  obtain ⟨f, hf⟩ := fault_ex X
  obtain ⟨b, hb⟩ := ker_bool f ⟨X, A, P, L, O, tu, sp, E⟩
  have HF : Hid (FaultX X f) := hf
  have HKB : Hid (b = true ↔ KerR f ⟨X, A, P, L, O, tu, sp, E⟩) := hb
  clear hf hb
  go_wp2_with fail
  refine (TK.out _ (HX.out.rd.keep HW0.out (Nat.le_refl _))).mono ?_
  rintro e w1 ⟨k1, rfl, hown1, hb1⟩
  have HX1 : Hid (RdK w1 k1 ⟨X, A, P, L, O, tu, sp, E⟩) := hown1.rd
  have HS1 : Hid (SmK k1 ⟨X, A, P, L, O, tu, sp, E⟩) := sm_ofK HS.out HX.out.rd hown1.rd
  have HW1 : Hid (Below w.heap.size w w1) := bel_on (Nat.le_refl _) HW0.out hb1
  have HA1 : Hid (w1.heap[w.heap.size]? = some (.cells #[.slice s.q0 s.n0 s.c0, .slice s.q1 s.n1 s.c1, .slice s.q2 s.n2 s.c2, .slice s.q3 s.n3 s.c3, .slice s.q4 s.n4 s.c4, .slice qA nA cA, .slice qP nP cP, .slice qL nL cL, .slice qO nO cO, .int .i64 tu, .bool sp, .slice qE nE cE] 97)) := row_on HA0.out hb1
  have kp1 := box12_cells HA1.out
  clear HW0 HA0 kp0
  clear hb1 hown1 hr1
  go_wp2_with fail
  refine (kerokS k1 ⟨X, A, P, L, O, tu, sp, E⟩ f b HF.out HKB.out _ HX1.out HS1.out HX.out.wf.u).mono ?_
  rintro e w2 ⟨rfl, hb2⟩
  have HW2 : Hid (Below w.heap.size w w2) := bel_on (Nat.le_refl _) HW1.out hb2
  have HA2 : Hid (w2.heap[w.heap.size]? = some (.cells #[.slice s.q0 s.n0 s.c0, .slice s.q1 s.n1 s.c1, .slice s.q2 s.n2 s.c2, .slice s.q3 s.n3 s.c3, .slice s.q4 s.n4 s.c4, .slice qA nA cA, .slice qP nP cP, .slice qL nL cL, .slice qO nO cO, .int .i64 tu, .bool sp, .slice qE nE cE] 97)) := row_on HA1.out hb2
  have kp2 := box12_cells HA2.out
  clear HW1 HA1 kp1
  clear hb2 HX1 HS1
  go_wp2_with fail
  refine (TK.out _ (HX.out.rd.keep HW2.out (Nat.le_refl _))).mono ?_
  rintro e w4 ⟨k4, rfl, hown4, hb4⟩
  have HW4 : Hid (Below w.heap.size w w4) := bel_on (Nat.le_refl _) HW2.out hb4
  have HA4 : Hid (w4.heap[w.heap.size]? = some (.cells #[.slice s.q0 s.n0 s.c0, .slice s.q1 s.n1 s.c1, .slice s.q2 s.n2 s.c2, .slice s.q3 s.n3 s.c3, .slice s.q4 s.n4 s.c4, .slice qA nA cA, .slice qP nP cP, .slice qL nL cL, .slice qO nO cO, .int .i64 tu, .bool sp, .slice qE nE cE] 97)) := row_on HA2.out hb4
  have kp4 := box12_cells HA4.out
  clear HW2 HA2 kp2
  have HS4 : Hid (SmK k4 ⟨X, A, P, L, O, tu, sp, E⟩) := sm_ofK HS.out HX.out.rd hown4.rd
  have HC4 : Hid (k4.s.n0 ≤ k4.s.c0) := hown4.x.cap
  have hrd4 := hown4.rd
  clear hown4
  obtain ⟨u, bA, dA, bP, dP, bL, dL, bO, dO, bE, dE⟩ := k4
  obtain ⟨gB, hgB⟩ : ∃ k, w4.heap.size = k := ⟨_, rfl⟩
  have hal : Below w4.heap.size w4 (w4.alloc (.cells #[.slice u.q0 u.n0 u.c0, .slice u.q1 u.n1 u.c1, .slice u.q2 u.n2 u.c2, .slice u.q3 u.n3 u.c3, .slice u.q4 u.n4 u.c4, .slice bA nA dA, .slice bP nP dP, .slice bL nL dL, .slice bO nO dO, .int .i64 tu, .bool sp, .slice bE nE dE] 38)) := (Below.refl _ _).alloc (Nat.le_refl _) _
  have HWb : Hid (Below w.heap.size w (w4.alloc (.cells #[.slice u.q0 u.n0 u.c0, .slice u.q1 u.n1 u.c1, .slice u.q2 u.n2 u.c2, .slice u.q3 u.n3 u.c3, .slice u.q4 u.n4 u.c4, .slice bA nA dA, .slice bP nP dP, .slice bL nL dL, .slice bO nO dO, .int .i64 tu, .bool sp, .slice bE nE dE] 38))) := bel_on (Nat.le_refl _) HW4.out hal
  have HAb : Hid ((w4.alloc (.cells #[.slice u.q0 u.n0 u.c0, .slice u.q1 u.n1 u.c1, .slice u.q2 u.n2 u.c2, .slice u.q3 u.n3 u.c3, .slice u.q4 u.n4 u.c4, .slice bA nA dA, .slice bP nP dP, .slice bL nL dL, .slice bO nO dO, .int .i64 tu, .bool sp, .slice bE nE dE] 38)).heap[w.heap.size]? = some (.cells #[.slice s.q0 s.n0 s.c0, .slice s.q1 s.n1 s.c1, .slice s.q2 s.n2 s.c2, .slice s.q3 s.n3 s.c3, .slice s.q4 s.n4 s.c4, .slice qA nA cA, .slice qP nP cP, .slice qL nL cL, .slice qO nO cO, .int .i64 tu, .bool sp, .slice qE nE cE] 97)) := row_on HA4.out hal
  have HBb : Hid ((w4.alloc (.cells #[.slice u.q0 u.n0 u.c0, .slice u.q1 u.n1 u.c1, .slice u.q2 u.n2 u.c2, .slice u.q3 u.n3 u.c3, .slice u.q4 u.n4 u.c4, .slice bA nA dA, .slice bP nP dP, .slice bL nL dL, .slice bO nO dO, .int .i64 tu, .bool sp, .slice bE nE dE] 38)).heap[gB]? = some (.cells #[.slice u.q0 u.n0 u.c0, .slice u.q1 u.n1 u.c1, .slice u.q2 u.n2 u.c2, .slice u.q3 u.n3 u.c3, .slice u.q4 u.n4 u.c4, .slice bA nA dA, .slice bP nP dP, .slice bL nL dL, .slice bO nO dO, .int .i64 tu, .bool sp, .slice bE nE dE] 38)) := by rw [← hgB]; exact heap_new w4 _
  have HXBb : Hid (RdK (w4.alloc (.cells #[.slice u.q0 u.n0 u.c0, .slice u.q1 u.n1 u.c1, .slice u.q2 u.n2 u.c2, .slice u.q3 u.n3 u.c3, .slice u.q4 u.n4 u.c4, .slice bA nA dA, .slice bP nP dP, .slice bL nL dL, .slice bO nO dO, .int .i64 tu, .bool sp, .slice bE nE dE] 38)) ⟨u, bA, dA, bP, dP, bL, dL, bO, dO, bE, dE⟩ ⟨X, A, P, L, O, tu, sp, E⟩) := hrd4.on hal
  have EB : Hid (KerV ⟨u, bA, dA, bP, dP, bL, dL, bO, dO, bE, dE⟩ ⟨X, A, P, L, O, tu, sp, E⟩ = .agg #[.slice u.q0 u.n0 u.c0, .slice u.q1 u.n1 u.c1, .slice u.q2 u.n2 u.c2, .slice u.q3 u.n3 u.c3, .slice u.q4 u.n4 u.c4, .slice bA nA dA, .slice bP nP dP, .slice bL nL dL, .slice bO nO dO, .int .i64 tu, .bool sp, .slice bE nE dE]) := by show KerV _ _ = _; unfold KerV; dsimp only; rw [HNA.out, HNP.out, HNL.out, HNO.out, HNE.out]
  have KI := kerokI ⟨u, bA, dA, bP, dP, bL, dL, bO, dO, bE, dE⟩ ⟨X, A, P, L, O, tu, sp, E⟩ f b HF.out HKB.out _ HXBb.out HS4.out HX.out.wf.u HC4.out (HG.out.on HWb.out)
  rw [EB.out] at KI
  have HKI : Hid (Calls Tryz.prog 20 #[.agg #[.slice u.q0 u.n0 u.c0, .slice u.q1 u.n1 u.c1, .slice u.q2 u.n2 u.c2, .slice u.q3 u.n3 u.c3, .slice u.q4 u.n4 u.c4, .slice bA nA dA, .slice bP nP dP, .slice bL nL dL, .slice bO nO dO, .int .i64 tu, .bool sp, .slice bE nE dE]] (w4.alloc (.cells #[.slice u.q0 u.n0 u.c0, .slice u.q1 u.n1 u.c1, .slice u.q2 u.n2 u.c2, .slice u.q3 u.n3 u.c3, .slice u.q4 u.n4 u.c4, .slice bA nA dA, .slice bP nP dP, .slice bL nL dL, .slice bO nO dO, .int .i64 tu, .bool sp, .slice bE nE dE] 38)) fun e w' => e = .returned (.bool b) ∧ Below (w4.alloc (.cells #[.slice u.q0 u.n0 u.c0, .slice u.q1 u.n1 u.c1, .slice u.q2 u.n2 u.c2, .slice u.q3 u.n3 u.c3, .slice u.q4 u.n4 u.c4, .slice bA nA dA, .slice bP nP dP, .slice bL nL dL, .slice bO nO dO, .int .i64 tu, .bool sp, .slice bE nE dE] 38)).heap.size (w4.alloc (.cells #[.slice u.q0 u.n0 u.c0, .slice u.q1 u.n1 u.c1, .slice u.q2 u.n2 u.c2, .slice u.q3 u.n3 u.c3, .slice u.q4 u.n4 u.c4, .slice bA nA dA, .slice bP nP dP, .slice bL nL dL, .slice bO nO dO, .int .i64 tu, .bool sp, .slice bE nE dE] 38)) w') := KI
  have kpb := box12_cells HAb.out
  have kbb := box12_cells HBb.out
  clear hb4 hrd4 hal HW4 HA4 KI
  rw [EB.out]
  subst hgB
  go_wp2_with fail
  refine HKI.out.mono ?_
  rintro e w5 ⟨rfl, hb5⟩
  obtain ⟨gB, hgB⟩ : ∃ k, w4.heap.size = k := ⟨_, rfl⟩
  rw [hgB] at HBb ⊢
  have HW5 : Hid (Below w.heap.size w w5) := bel_on (Nat.le_refl _) HWb.out hb5
  have HA5 : Hid (w5.heap[w.heap.size]? = some (.cells #[.slice s.q0 s.n0 s.c0, .slice s.q1 s.n1 s.c1, .slice s.q2 s.n2 s.c2, .slice s.q3 s.n3 s.c3, .slice s.q4 s.n4 s.c4, .slice qA nA cA, .slice qP nP cP, .slice qL nL cL, .slice qO nO cO, .int .i64 tu, .bool sp, .slice qE nE cE] 97)) := row_on HAb.out hb5
  have kp5 := box12_cells HA5.out
  have HB5 : Hid (w5.heap[gB]? = some (.cells #[.slice u.q0 u.n0 u.c0, .slice u.q1 u.n1 u.c1, .slice u.q2 u.n2 u.c2, .slice u.q3 u.n3 u.c3, .slice u.q4 u.n4 u.c4, .slice bA nA dA, .slice bP nP dP, .slice bL nL dL, .slice bO nO dO, .int .i64 tu, .bool sp, .slice bE nE dE] 38)) := row_on HBb.out hb5
  have kb5 := box12_cells HB5.out
  have HXB5 : Hid (RdK w5 ⟨u, bA, dA, bP, dP, bL, dL, bO, dO, bE, dE⟩ ⟨X, A, P, L, O, tu, sp, E⟩) := HXBb.out.on hb5
  clear HWb HAb kpb HBb HXBb kbb
  clear hb5 hgB kp4 HKI
  have hbb : (b != b) = false := by simp
  have HLW : Hid (LWK w w5 w.heap.size gB (.cells #[.slice s.q0 s.n0 s.c0, .slice s.q1 s.n1 s.c1, .slice s.q2 s.n2 s.c2, .slice s.q3 s.n3 s.c3, .slice s.q4 s.n4 s.c4, .slice qA nA cA, .slice qP nP cP, .slice qL nL cL, .slice qO nO cO, .int .i64 tu, .bool sp, .slice qE nE cE] 97) (.cells #[.slice u.q0 u.n0 u.c0, .slice u.q1 u.n1 u.c1, .slice u.q2 u.n2 u.c2, .slice u.q3 u.n3 u.c3, .slice u.q4 u.n4 u.c4, .slice bA nA dA, .slice bP nP dP, .slice bL nL dL, .slice bO nO dO, .int .i64 tu, .bool sp, .slice bE nE dE] 38) ⟨u, bA, dA, bP, dP, bL, dL, bO, dO, bE, dE⟩ ⟨X, A, P, L, O, tu, sp, E⟩) := ⟨HW5.out, HA5.out, HB5.out, HXB5.out⟩
  have EQ : Hid (∀ W k8, RdK W ⟨u, bA, dA, bP, dP, bL, dL, bO, dO, bE, dE⟩ ⟨X, A, P, L, O, tu, sp, E⟩ → RdK W k8 ⟨X, A, P, L, O, tu, sp, E⟩ → Calls Tryz.prog 39 #[.agg #[.slice u.q0 u.n0 u.c0, .slice u.q1 u.n1 u.c1, .slice u.q2 u.n2 u.c2, .slice u.q3 u.n3 u.c3, .slice u.q4 u.n4 u.c4, .slice bA nA dA, .slice bP nP dP, .slice bL nL dL, .slice bO nO dO, .int .i64 tu, .bool sp, .slice bE nE dE], KerV k8 ⟨X, A, P, L, O, tu, sp, E⟩] W fun e w' => e = .returned (.bool true) ∧ Below W.heap.size W w') := by
    intro W k8 h1 h2
    have := eqK ⟨u, bA, dA, bP, dP, bL, dL, bO, dO, bE, dE⟩ k8 ⟨X, A, P, L, O, tu, sp, E⟩ W h1 h2 HS4.out
    rw [EB.out] at this
    exact this
  go_wp2
  clear kp5 kb5 HW5 HA5 HB5 HXB5
  go_region_held3 (fun w' => w'.cell? ⟨w.heap.size, 0, none⟩ = some (.slice s.q0 s.n0 s.c0) ∧ w'.cell? ⟨w.heap.size, 1, none⟩ = some (.slice s.q1 s.n1 s.c1) ∧ w'.cell? ⟨w.heap.size, 2, none⟩ = some (.slice s.q2 s.n2 s.c2) ∧ w'.cell? ⟨w.heap.size, 3, none⟩ = some (.slice s.q3 s.n3 s.c3) ∧ w'.cell? ⟨w.heap.size, 4, none⟩ = some (.slice s.q4 s.n4 s.c4) ∧ w'.cell? ⟨w.heap.size, 5, none⟩ = some (.slice qA nA cA) ∧ w'.cell? ⟨w.heap.size, 6, none⟩ = some (.slice qP nP cP) ∧ w'.cell? ⟨w.heap.size, 7, none⟩ = some (.slice qL nL cL) ∧ w'.cell? ⟨w.heap.size, 8, none⟩ = some (.slice qO nO cO) ∧ w'.cell? ⟨w.heap.size, 9, none⟩ = some (.int .i64 tu) ∧ w'.cell? ⟨w.heap.size, 10, none⟩ = some (.bool sp) ∧ w'.cell? ⟨w.heap.size, 11, none⟩ = some (.slice qE nE cE) ∧ w'.cell? ⟨gB, 0, none⟩ = some (.slice u.q0 u.n0 u.c0) ∧ w'.cell? ⟨gB, 1, none⟩ = some (.slice u.q1 u.n1 u.c1) ∧ w'.cell? ⟨gB, 2, none⟩ = some (.slice u.q2 u.n2 u.c2) ∧ w'.cell? ⟨gB, 3, none⟩ = some (.slice u.q3 u.n3 u.c3) ∧ w'.cell? ⟨gB, 4, none⟩ = some (.slice u.q4 u.n4 u.c4) ∧ w'.cell? ⟨gB, 5, none⟩ = some (.slice bA nA dA) ∧ w'.cell? ⟨gB, 6, none⟩ = some (.slice bP nP dP) ∧ w'.cell? ⟨gB, 7, none⟩ = some (.slice bL nL dL) ∧ w'.cell? ⟨gB, 8, none⟩ = some (.slice bO nO dO) ∧ w'.cell? ⟨gB, 9, none⟩ = some (.int .i64 tu) ∧ w'.cell? ⟨gB, 10, none⟩ = some (.bool sp) ∧ w'.cell? ⟨gB, 11, none⟩ = some (.slice bE nE dE) ∧ LWK w w' w.heap.size gB (.cells #[.slice s.q0 s.n0 s.c0, .slice s.q1 s.n1 s.c1, .slice s.q2 s.n2 s.c2, .slice s.q3 s.n3 s.c3, .slice s.q4 s.n4 s.c4, .slice qA nA cA, .slice qP nP cP, .slice qL nL cL, .slice qO nO cO, .int .i64 tu, .bool sp, .slice qE nE cE] 97) (.cells #[.slice u.q0 u.n0 u.c0, .slice u.q1 u.n1 u.c1, .slice u.q2 u.n2 u.c2, .slice u.q3 u.n3 u.c3, .slice u.q4 u.n4 u.c4, .slice bA nA dA, .slice bP nP dP, .slice bL nL dL, .slice bO nO dO, .int .i64 tu, .bool sp, .slice bE nE dE] 38) ⟨u, bA, dA, bP, dP, bL, dL, bO, dO, bE, dE⟩ ⟨X, A, P, L, O, tu, sp, E⟩)
    (first | (with_reducible exact lwk_conj HLW.out.drew) | (refine lwk_conj (LWK.on' (by assumption) (lwk_of (by assumption)))))
    (first | (go_at_call 45; refine (TK.out _ (HX.out.rd.keep (lwk_of (by assumption)).b (Nat.le_refl _))).mono ?_; rintro e w8 ⟨k8, rfl, hown8, hb8⟩; have HX8 : Hid (RdK w8 k8 ⟨X, A, P, L, O, tu, sp, E⟩) := hown8.rd; clear hown8) | (go_at_call 39; refine (EQ.out _ k8 (lwk_of (by assumption)).x HX8.out).mono ?_; rintro e w9 ⟨rfl, hb9⟩))
  rename_i HH
  have HW9 : Hid (Below w.heap.size w w9) := (lwk_of HH).b
  clear HH hb8 hb9 HLW HX8
  go_wp2
  go_ret
  exact ⟨rfl, HW9.out⟩
end Go.Proofs.YtokcbfgajcelhaaGreatDoor.fnExactKernelOk
