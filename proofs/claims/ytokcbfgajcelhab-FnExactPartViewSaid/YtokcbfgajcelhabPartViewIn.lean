/-
  The walk of FnExactPartView.
-/
import Derived.Test.YtokcbfgajcelhabKPvW
import Derived.Test.YtokcbfgajcelhabKerS
import Derived.Test.YtokcbfgajcelhabKerT
import Derived.Test.YtokcbfgajcelhabKerE
namespace Go.Proofs.Ytokcbfgajcelhab.fnExactPartView
open Go.ChangeShapes Go.WideShapes Go.ChangeAt Go.RowKit Go.PlainAid
set_option linter.unusedVariables false

theorem wf64 {p : Int} (h : (Lit.int .i64 p).wf = true) : -9223372036854775808 ≤ p ∧ p ≤ 9223372036854775807 := by
  simp only [Lit.wf, Bool.and_eq_true, decide_eq_true_eq] at h
  exact h
set_option maxRecDepth 100000 in
set_option maxHeartbeats 16000000 in
theorem walk (k : KH) (K : KX) (p : Int) (w : World) (h : IsKer w k K) (wp : (Lit.int .i64 p).wf = true) :
    Calls Try.prog 3 #[KerV k K, .int .i64 p] w fun e w' => e = .returned (.bool true) ∧ Below w.heap.size w w' := by
  have hp : -9223372036854775808 ≤ p ∧ p ≤ 9223372036854775807 := wf64 wp
  obtain ⟨s, qA, cA, qP, cP, qL, cL, qO, cO, qE, cE⟩ := k
  obtain ⟨X, A, P, L, O, tu, sp, E⟩ := K
  have HX : Hid (IsKer w ⟨s, qA, cA, qP, cP, qL, cL, qO, cO, qE, cE⟩ ⟨X, A, P, L, O, tu, sp, E⟩) := h
  obtain ⟨nA, hA⟩ : ∃ n, A.length = n := ⟨_, rfl⟩
  obtain ⟨nP, hP⟩ : ∃ n, P.length = n := ⟨_, rfl⟩
  obtain ⟨nL, hL⟩ : ∃ n, L.length = n := ⟨_, rfl⟩
  obtain ⟨nO, hO⟩ : ∃ n, O.length = n := ⟨_, rfl⟩
  obtain ⟨nE, hE⟩ : ∃ n, E.length = n := ⟨_, rfl⟩
  have HNA : Hid (A.length = nA) := hA
  have HNP : Hid (P.length = nP) := hP
  have HNL : Hid (L.length = nL) := hL
  have HNO : Hid (O.length = nO) := hO
  have HNE : Hid (E.length = nE) := hE
  unfold KerV
  dsimp only
  rw [hA, hP, hL, hO, hE]
  have EV : Hid (KerV ⟨s, qA, cA, qP, cP, qL, cL, qO, cO, qE, cE⟩ ⟨X, A, P, L, O, tu, sp, E⟩ = .agg #[.slice s.q0 s.n0 s.c0, .slice s.q1 s.n1 s.c1, .slice s.q2 s.n2 s.c2, .slice s.q3 s.n3 s.c3, .slice s.q4 s.n4 s.c4, .slice qA nA cA, .slice qP nP cP, .slice qL nL cL, .slice qO nO cO, .int .i64 tu, .bool sp, .slice qE nE cE]) := by show KerV _ _ = _; unfold KerV; dsimp only; rw [hA, hP, hL, hO, hE]
  have HWa : Hid (Below w.heap.size w (w.alloc (.cells #[.slice s.q0 s.n0 s.c0, .slice s.q1 s.n1 s.c1, .slice s.q2 s.n2 s.c2, .slice s.q3 s.n3 s.c3, .slice s.q4 s.n4 s.c4, .slice qA nA cA, .slice qP nP cP, .slice qL nL cL, .slice qO nO cO, .int .i64 tu, .bool sp, .slice qE nE cE] 36))) := (Below.refl _ _).alloc (Nat.le_refl _) _
  have HAa : Hid ((w.alloc (.cells #[.slice s.q0 s.n0 s.c0, .slice s.q1 s.n1 s.c1, .slice s.q2 s.n2 s.c2, .slice s.q3 s.n3 s.c3, .slice s.q4 s.n4 s.c4, .slice qA nA cA, .slice qP nP cP, .slice qL nL cL, .slice qO nO cO, .int .i64 tu, .bool sp, .slice qE nE cE] 36)).heap[w.heap.size]? = some (.cells #[.slice s.q0 s.n0 s.c0, .slice s.q1 s.n1 s.c1, .slice s.q2 s.n2 s.c2, .slice s.q3 s.n3 s.c3, .slice s.q4 s.n4 s.c4, .slice qA nA cA, .slice qP nP cP, .slice qL nL cL, .slice qO nO cO, .int .i64 tu, .bool sp, .slice qE nE cE] 36)) := heap_new w _
  have szC := fun W hr => szK ⟨s, qA, cA, qP, cP, qL, cL, qO, cO, qE, cE⟩ ⟨X, A, P, L, O, tu, sp, E⟩ W hr HX.out.lim
  rw [EV.out] at szC
  have SZ : Hid (∀ W, RdK W ⟨s, qA, cA, qP, cP, qL, cL, qO, cO, qE, cE⟩ ⟨X, A, P, L, O, tu, sp, E⟩ → Calls Try.prog 4 #[.agg #[.slice s.q0 s.n0 s.c0, .slice s.q1 s.n1 s.c1, .slice s.q2 s.n2 s.c2, .slice s.q3 s.n3 s.c3, .slice s.q4 s.n4 s.c4, .slice qA nA cA, .slice qP nP cP, .slice qL nL cL, .slice qO nO cO, .int .i64 tu, .bool sp, .slice qE nE cE], .int .i64 1048576] W fun e w' => ∃ r : Int, e = .returned (.int .i64 r) ∧ (r = -1 ∨ (0 ≤ r ∧ SmK ⟨s, qA, cA, qP, cP, qL, cL, qO, cO, qE, cE⟩ ⟨X, A, P, L, O, tu, sp, E⟩)) ∧ Below W.heap.size W w') := szC
  have HPp : Hid (-9223372036854775808 ≤ p ∧ p ≤ 9223372036854775807) := hp
  clear h hA hP hL hO hE szC hp wp
  go_enter Try.func3, Try.ntmps3
  have kpa := box12_cells HAa.out
  go_wp2_with fail
  refine (SZ.out _ (HX.out.rd.keep HWa.out (Nat.le_refl _))).mono ?_
  rintro e w0 ⟨r, rfl, hr, hb0⟩
  have HW0 : Hid (Below w.heap.size w w0) := bel_on (Nat.le_refl _) HWa.out hb0
  have HA0 : Hid (w0.heap[w.heap.size]? = some (.cells #[.slice s.q0 s.n0 s.c0, .slice s.q1 s.n1 s.c1, .slice s.q2 s.n2 s.c2, .slice s.q3 s.n3 s.c3, .slice s.q4 s.n4 s.c4, .slice qA nA cA, .slice qP nP cP, .slice qL nL cL, .slice qO nO cO, .int .i64 tu, .bool sp, .slice qE nE cE] 36)) := row_on HAa.out hb0
  have kp0 := box12_cells HA0.out
  clear hb0 SZ kpa HWa HAa
  rcases hr with rfl | ⟨hr0, hs⟩
  · go_wp2
    go_ret
    exact ⟨rfl, HW0.out⟩
  have HS : Hid (SmK ⟨s, qA, cA, qP, cP, qL, cL, qO, cO, qE, cE⟩ ⟨X, A, P, L, O, tu, sp, E⟩) := hs
  have hr1 : ¬ r < 0 := by omega
  have toC := fun W hr => toK ⟨s, qA, cA, qP, cP, qL, cL, qO, cO, qE, cE⟩ ⟨X, A, P, L, O, tu, sp, E⟩ W hr hs
  rw [EV.out] at toC
  have TK : Hid (∀ W, RdK W ⟨s, qA, cA, qP, cP, qL, cL, qO, cO, qE, cE⟩ ⟨X, A, P, L, O, tu, sp, E⟩ → Calls Try.prog 6 #[.agg #[.slice s.q0 s.n0 s.c0, .slice s.q1 s.n1 s.c1, .slice s.q2 s.n2 s.c2, .slice s.q3 s.n3 s.c3, .slice s.q4 s.n4 s.c4, .slice qA nA cA, .slice qP nP cP, .slice qL nL cL, .slice qO nO cO, .int .i64 tu, .bool sp, .slice qE nE cE]] W fun e w' => ∃ k', e = .returned (KerV k' ⟨X, A, P, L, O, tu, sp, E⟩) ∧ OwnK w' W.heap.size k' ⟨X, A, P, L, O, tu, sp, E⟩ ∧ Below W.heap.size W w') := toC
  obtain ⟨Q, cl, ol, hv⟩ := view_ex ⟨X, A, P, L, O, tu, sp, E⟩ p
  have HV : Hid (ViewIs ⟨X, A, P, L, O, tu, sp, E⟩ p Q cl ol) := hv
  obtain ⟨s1, s2, s3⟩ := view_sm hv hs
  clear hs hr0 toC hv
  go_wp2_with fail
  refine (TK.out _ (HX.out.rd.keep HW0.out (Nat.le_refl _))).mono ?_
  rintro e w1 ⟨k1, rfl, hown1, hb1⟩
  have HO1 : Hid (OwnK w1 w0.heap.size k1 ⟨X, A, P, L, O, tu, sp, E⟩) := hown1
  have HS1 : Hid (SmK k1 ⟨X, A, P, L, O, tu, sp, E⟩) := sm_ofK HS.out HX.out.rd hown1.rd
  have HW1 : Hid (Below w.heap.size w w1) := bel_on (Nat.le_refl _) HW0.out hb1
  have HA1 : Hid (w1.heap[w.heap.size]? = some (.cells #[.slice s.q0 s.n0 s.c0, .slice s.q1 s.n1 s.c1, .slice s.q2 s.n2 s.c2, .slice s.q3 s.n3 s.c3, .slice s.q4 s.n4 s.c4, .slice qA nA cA, .slice qP nP cP, .slice qL nL cL, .slice qO nO cO, .int .i64 tu, .bool sp, .slice qE nE cE] 36)) := row_on HA0.out hb1
  clear hb1 hown1 hr1 HW0 HA0 kp0
  go_wp2_with fail
  refine (viewSX k1 ⟨X, A, P, L, O, tu, sp, E⟩ p Q cl ol HV.out HPp.out _ _ HO1.out HS1.out).mono ?_
  rintro e w2 ⟨p1, c1, p2, c2, p3, c3, rfl, hr1, hr2, hr3, hb2⟩
  obtain ⟨st, pc, sk, ss, en, la⟩ := Q
  dsimp only at hr1 s1 ⊢
  obtain ⟨m, hm⟩ : ∃ m, sk.length = m := ⟨_, rfl⟩
  obtain ⟨n2, hn2⟩ : ∃ m, cl.length = m := ⟨_, rfl⟩
  obtain ⟨n3, hn3⟩ : ∃ m, ol.length = m := ⟨_, rfl⟩
  rw [hm, hn2, hn3]
  rw [hm] at s1
  rw [hn2] at s2
  rw [hn3] at s3
  have HM : Hid (sk.length = m) := hm
  have HN2 : Hid (cl.length = n2) := hn2
  have HN3 : Hid (ol.length = n3) := hn3
  have R1 : Hid (Rd w2 p1 sk) := hr1
  have R2 : Hid (Rd w2 p2 cl) := hr2
  have R3 : Hid (Rd w2 p3 ol) := hr3
  have HW2 : Hid (Below w.heap.size w w2) := bel_on (Nat.le_refl _) HW1.out hb2
  have HA2 : Hid (w2.heap[w.heap.size]? = some (.cells #[.slice s.q0 s.n0 s.c0, .slice s.q1 s.n1 s.c1, .slice s.q2 s.n2 s.c2, .slice s.q3 s.n3 s.c3, .slice s.q4 s.n4 s.c4, .slice qA nA cA, .slice qP nP cP, .slice qL nL cL, .slice qO nO cO, .int .i64 tu, .bool sp, .slice qE nE cE] 36)) := row_on HA1.out hb2
  have HLT : Hid (w.heap.size < w2.heap.size) := (show w.heap.size < w2.heap.size from row_lt HA2.out)
  clear hb2 hr1 hr2 hr3 HW1 HA1 HO1 HS1 hm hn2 hn3
  have hal2 : Below w2.heap.size w2 (w2.alloc (.cells #[.int .i64 st, .int .i64 pc, .slice p1 m c1, .int .i64 ss, .int .i64 en, .int .i64 la] 41)) := (Below.refl _ _).alloc (Nat.le_refl _) _
  have HW2b : Hid (Below w.heap.size w (w2.alloc (.cells #[.int .i64 st, .int .i64 pc, .slice p1 m c1, .int .i64 ss, .int .i64 en, .int .i64 la] 41))) := bel_on (Nat.le_refl _) HW2.out hal2
  have HA2b : Hid ((w2.alloc (.cells #[.int .i64 st, .int .i64 pc, .slice p1 m c1, .int .i64 ss, .int .i64 en, .int .i64 la] 41)).heap[w.heap.size]? = some (.cells #[.slice s.q0 s.n0 s.c0, .slice s.q1 s.n1 s.c1, .slice s.q2 s.n2 s.c2, .slice s.q3 s.n3 s.c3, .slice s.q4 s.n4 s.c4, .slice qA nA cA, .slice qP nP cP, .slice qL nL cL, .slice qO nO cO, .int .i64 tu, .bool sp, .slice qE nE cE] 36)) := row_on HA2.out hal2
  have HV2b : Hid ((w2.alloc (.cells #[.int .i64 st, .int .i64 pc, .slice p1 m c1, .int .i64 ss, .int .i64 en, .int .i64 la] 41)).heap[w2.heap.size]? = some (.cells #[.int .i64 st, .int .i64 pc, .slice p1 m c1, .int .i64 ss, .int .i64 en, .int .i64 la] 41)) := heap_new w2 _
  have HB2b : Hid (Below w2.heap.size w2 (w2.alloc (.cells #[.int .i64 st, .int .i64 pc, .slice p1 m c1, .int .i64 ss, .int .i64 en, .int .i64 la] 41))) := hal2
  have kp2 := box12_cells HA2b.out
  clear hal2
  go_wp2_with fail
  refine (TK.out _ (HX.out.rd.keep HW2b.out (Nat.le_refl _))).mono ?_
  rintro e w3 ⟨k3, rfl, hown3, hb3⟩
  have hsz3 : (w2.alloc (.cells #[.int .i64 st, .int .i64 pc, .slice p1 m c1, .int .i64 ss, .int .i64 en, .int .i64 la] 41)).heap.size = w2.heap.size + 1 := by simp
  rw [hsz3] at hown3
  have HO3 : Hid (OwnK w3 (w2.heap.size + 1) k3 ⟨X, A, P, L, O, tu, sp, E⟩) := hown3
  have HS3 : Hid (SmK k3 ⟨X, A, P, L, O, tu, sp, E⟩) := sm_ofK HS.out HX.out.rd hown3.rd
  have HB3 : Hid (Below w2.heap.size w2 w3) := bel_on (Nat.le_refl _) HB2b.out hb3
  have HV3 : Hid (w3.heap[w2.heap.size]? = some (.cells #[.int .i64 st, .int .i64 pc, .slice p1 m c1, .int .i64 ss, .int .i64 en, .int .i64 la] 41)) := row_on HV2b.out hb3
  clear hb3 hown3 hsz3 HW2b HA2b HV2b HB2b kp2
  obtain ⟨u, bA, dA, bP, dP, bL, dL, bO, dO, bE, dE⟩ := k3
  have EB : Hid (KerV ⟨u, bA, dA, bP, dP, bL, dL, bO, dO, bE, dE⟩ ⟨X, A, P, L, O, tu, sp, E⟩ = .agg #[.slice u.q0 u.n0 u.c0, .slice u.q1 u.n1 u.c1, .slice u.q2 u.n2 u.c2, .slice u.q3 u.n3 u.c3, .slice u.q4 u.n4 u.c4, .slice bA nA dA, .slice bP nP dP, .slice bL nL dL, .slice bO nO dO, .int .i64 tu, .bool sp, .slice bE nE dE]) := by show KerV _ _ = _; unfold KerV; dsimp only; rw [HNA.out, HNP.out, HNL.out, HNO.out, HNE.out]
  have hal3 : Below w3.heap.size w3 (w3.alloc (.cells #[.slice u.q0 u.n0 u.c0, .slice u.q1 u.n1 u.c1, .slice u.q2 u.n2 u.c2, .slice u.q3 u.n3 u.c3, .slice u.q4 u.n4 u.c4, .slice bA nA dA, .slice bP nP dP, .slice bL nL dL, .slice bO nO dO, .int .i64 tu, .bool sp, .slice bE nE dE] 55)) := (Below.refl _ _).alloc (Nat.le_refl _) _
  have HX3b : Hid ((w3.alloc (.cells #[.slice u.q0 u.n0 u.c0, .slice u.q1 u.n1 u.c1, .slice u.q2 u.n2 u.c2, .slice u.q3 u.n3 u.c3, .slice u.q4 u.n4 u.c4, .slice bA nA dA, .slice bP nP dP, .slice bL nL dL, .slice bO nO dO, .int .i64 tu, .bool sp, .slice bE nE dE] 55)).heap[w3.heap.size]? = some (.cells #[.slice u.q0 u.n0 u.c0, .slice u.q1 u.n1 u.c1, .slice u.q2 u.n2 u.c2, .slice u.q3 u.n3 u.c3, .slice u.q4 u.n4 u.c4, .slice bA nA dA, .slice bP nP dP, .slice bL nL dL, .slice bO nO dO, .int .i64 tu, .bool sp, .slice bE nE dE] 55)) := heap_new w3 _
  have HV3b : Hid ((w3.alloc (.cells #[.slice u.q0 u.n0 u.c0, .slice u.q1 u.n1 u.c1, .slice u.q2 u.n2 u.c2, .slice u.q3 u.n3 u.c3, .slice u.q4 u.n4 u.c4, .slice bA nA dA, .slice bP nP dP, .slice bL nL dL, .slice bO nO dO, .int .i64 tu, .bool sp, .slice bE nE dE] 55)).heap[w2.heap.size]? = some (.cells #[.int .i64 st, .int .i64 pc, .slice p1 m c1, .int .i64 ss, .int .i64 en, .int .i64 la] 41)) := row_on HV3.out hal3
  have HB3b : Hid (Below w2.heap.size w2 (w3.alloc (.cells #[.slice u.q0 u.n0 u.c0, .slice u.q1 u.n1 u.c1, .slice u.q2 u.n2 u.c2, .slice u.q3 u.n3 u.c3, .slice u.q4 u.n4 u.c4, .slice bA nA dA, .slice bP nP dP, .slice bL nL dL, .slice bO nO dO, .int .i64 tu, .bool sp, .slice bE nE dE] 55))) := bel_on (Nat.le_refl _) HB3.out hal3
  have HBX : Hid (Below w3.heap.size w3 (w3.alloc (.cells #[.slice u.q0 u.n0 u.c0, .slice u.q1 u.n1 u.c1, .slice u.q2 u.n2 u.c2, .slice u.q3 u.n3 u.c3, .slice u.q4 u.n4 u.c4, .slice bA nA dA, .slice bP nP dP, .slice bL nL dL, .slice bO nO dO, .int .i64 tu, .bool sp, .slice bE nE dE] 55))) := hal3
  have VI := viewIX ⟨u, bA, dA, bP, dP, bL, dL, bO, dO, bE, dE⟩ ⟨X, A, P, L, O, tu, sp, E⟩ p ⟨st, pc, sk, ss, en, la⟩ cl ol HV.out _ (HO3.out.rd.on hal3) HS3.out
  rw [EB.out] at VI
  dsimp only at VI
  rw [HM.out, HN2.out, HN3.out] at VI
  have HVI : Hid (Calls _ _ _ _ _) := VI
  have kx3 := box12_cells HX3b.out
  clear VI hal3 HV3 HB3
  rw [EB.out]
  go_wp2_with fail
  refine HVI.out.mono ?_
  rintro e w4 ⟨q1, q2, q3, rfl, ⟨o1, o2, o3, d12, d13, d23⟩, hb4⟩
  obtain ⟨lo, hlo⟩ : ∃ k, (w3.alloc (.cells #[.slice u.q0 u.n0 u.c0, .slice u.q1 u.n1 u.c1, .slice u.q2 u.n2 u.c2, .slice u.q3 u.n3 u.c3, .slice u.q4 u.n4 u.c4, .slice bA nA dA, .slice bP nP dP, .slice bL nL dL, .slice bO nO dO, .int .i64 tu, .bool sp, .slice bE nE dE] 55)).heap.size = k := ⟨_, rfl⟩
  have hlo' : lo = w3.heap.size + 1 := by rw [← hlo]; simp
  have hXW : w2.heap.size < w3.heap.size := by have h2 := HO3.out.x; obtain ⟨g0, _, _, _, _, _, ⟨hg, _⟩, hr, _⟩ := h2.ex; have := hr.lt; omega
  rw [hlo] at o1 o2 o3
  have o1' : OwV (w4.alloc (.cells #[.int .i64 st, .int .i64 pc, .slice q1 m m, .int .i64 ss, .int .i64 en, .int .i64 la] 41)) lo q1 sk := o1.on ((Below.refl _ _).alloc (Nat.le_refl _) _)
  have hGX : w3.heap.size < w4.heap.size := by have := hb4.size; rw [hlo] at this; omega
  have VDd : Hid (VD w2 w2.heap.size w4.heap.size lo q1 q2 q3) := by
    have lt : ∀ (q : Option Addr) (l : List Int), OwV w4 lo q l → ∀ a, q = some a → w2.heap.size < a.block ∧ a.block ≠ w2.heap.size ∧ a.block ≠ w4.heap.size := by
      intro q l ho a ha
      rcases ho with ⟨h0, _⟩ | ⟨g, h0, h1, h2⟩
      · rw [h0] at ha; cases ha
      · rw [h0] at ha; cases ha
        have h3 := h2.lt
        exact ⟨show w2.heap.size < g by omega, show g ≠ w2.heap.size by omega, show g ≠ w4.heap.size by omega⟩
    exact ⟨lt _ _ o1, lt _ _ o2, lt _ _ o3, d12, d13, d23⟩
  have hal4 : Below w4.heap.size w4 (w4.alloc (.cells #[.int .i64 st, .int .i64 pc, .slice q1 m m, .int .i64 ss, .int .i64 en, .int .i64 la] 41)) := (Below.refl _ _).alloc (Nat.le_refl _) _
  have VS4 : Hid (VS w2 (w4.alloc (.cells #[.int .i64 st, .int .i64 pc, .slice q1 m m, .int .i64 ss, .int .i64 en, .int .i64 la] 41)) w2.heap.size w4.heap.size (.cells #[.int .i64 st, .int .i64 pc, .slice p1 m c1, .int .i64 ss, .int .i64 en, .int .i64 la] 41) (.cells #[.int .i64 st, .int .i64 pc, .slice q1 m m, .int .i64 ss, .int .i64 en, .int .i64 la] 41) lo q1 q2 q3 sk cl ol) := by
    refine ⟨bel_on (Nat.le_refl _) (bel_on (Nat.le_refl _) HB3b.out hb4) hal4, ?_, ?_, o1.on hal4, o2.on hal4, o3.on hal4⟩
    · exact row_on (row_on HV3b.out hb4) hal4
    · exact heap_new w4 _
  have HX4 : Hid ((w4.alloc (.cells #[.int .i64 st, .int .i64 pc, .slice q1 m m, .int .i64 ss, .int .i64 en, .int .i64 la] 41)).heap[w3.heap.size]? = some (.cells #[.slice u.q0 u.n0 u.c0, .slice u.q1 u.n1 u.c1, .slice u.q2 u.n2 u.c2, .slice u.q3 u.n3 u.c3, .slice u.q4 u.n4 u.c4, .slice bA nA dA, .slice bP nP dP, .slice bL nL dL, .slice bO nO dO, .int .i64 tu, .bool sp, .slice bE nE dE] 55)) := row_on (row_on HX3b.out hb4) hal4
  have HB4 : Hid (Below w3.heap.size w3 (w4.alloc (.cells #[.int .i64 st, .int .i64 pc, .slice q1 m m, .int .i64 ss, .int .i64 en, .int .i64 la] 41))) := bel_on (Nat.le_refl _) (bel_on (Nat.le_refl _) HBX.out hb4) hal4
  have HNX : Hid (lo = w3.heap.size + 1 ∧ w2.heap.size < w3.heap.size ∧ w3.heap.size < w4.heap.size) := ⟨hlo', hXW, hGX⟩
  clear o1 o2 o3 o1' d12 d13 d23 hb4 hal4 HVI HX3b HV3b HB3b HBX hlo hlo' hXW hGX kx3
  have ka4 := box12_cells ((VS4.out.b.block _ HLT.out).trans HA2.out)
  have kw4 := box6_cells VS4.out.rw
  have kg4 := box6_cells VS4.out.rg
  have kx4 := box12_cells HX4.out
  go_wp2_with fail
  refine (eqPt st pc ss en la q1 p1 sk m m c1 HM.out s1 _ VS4.out.o1.rd (R1.out.keep VS4.out.b (Nat.le_refl _))).mono ?_
  rintro e w5 ⟨rfl, hb⟩
  have VS5 : Hid (VS w2 w5 w2.heap.size w4.heap.size (.cells #[.int .i64 st, .int .i64 pc, .slice p1 m c1, .int .i64 ss, .int .i64 en, .int .i64 la] 41) (.cells #[.int .i64 st, .int .i64 pc, .slice q1 m m, .int .i64 ss, .int .i64 en, .int .i64 la] 41) lo q1 q2 q3 sk cl ol) := VS4.out.on hb
  have HX5 : Hid (w5.heap[w3.heap.size]? = some (.cells #[.slice u.q0 u.n0 u.c0, .slice u.q1 u.n1 u.c1, .slice u.q2 u.n2 u.c2, .slice u.q3 u.n3 u.c3, .slice u.q4 u.n4 u.c4, .slice bA nA dA, .slice bP nP dP, .slice bL nL dL, .slice bO nO dO, .int .i64 tu, .bool sp, .slice bE nE dE] 55)) := row_on HX4.out hb
  have HB5 : Hid (Below w3.heap.size w3 w5) := bel_on (Nat.le_refl _) HB4.out hb
  have ka5 := box12_cells ((VS5.out.b.block _ HLT.out).trans HA2.out)
  have kw5 := box6_cells VS5.out.rw
  have kg5 := box6_cells VS5.out.rg
  have kx5 := box12_cells HX5.out
  clear hb
  clear VS4 ka4 kw4 kg4 HX4 kx4 HB4
  go_wp2_with fail
  refine (C.eqInts q2 p2 cl n2 n2 c2 HN2.out s2 _ VS5.out.o2.rd (R2.out.keep VS5.out.b (Nat.le_refl _))).mono ?_
  rintro e w6 ⟨rfl, hb⟩
  have VS6 : Hid (VS w2 w6 w2.heap.size w4.heap.size (.cells #[.int .i64 st, .int .i64 pc, .slice p1 m c1, .int .i64 ss, .int .i64 en, .int .i64 la] 41) (.cells #[.int .i64 st, .int .i64 pc, .slice q1 m m, .int .i64 ss, .int .i64 en, .int .i64 la] 41) lo q1 q2 q3 sk cl ol) := VS5.out.on hb
  have HX6 : Hid (w6.heap[w3.heap.size]? = some (.cells #[.slice u.q0 u.n0 u.c0, .slice u.q1 u.n1 u.c1, .slice u.q2 u.n2 u.c2, .slice u.q3 u.n3 u.c3, .slice u.q4 u.n4 u.c4, .slice bA nA dA, .slice bP nP dP, .slice bL nL dL, .slice bO nO dO, .int .i64 tu, .bool sp, .slice bE nE dE] 55)) := row_on HX5.out hb
  have HB6 : Hid (Below w3.heap.size w3 w6) := bel_on (Nat.le_refl _) HB5.out hb
  have ka6 := box12_cells ((VS6.out.b.block _ HLT.out).trans HA2.out)
  have kw6 := box6_cells VS6.out.rw
  have kg6 := box6_cells VS6.out.rg
  have kx6 := box12_cells HX6.out
  clear hb
  clear VS5 ka5 kw5 kg5 HX5 kx5 HB5
  go_wp2_with fail
  refine (C.eqInts q3 p3 ol n3 n3 c3 HN3.out s3 _ VS6.out.o3.rd (R3.out.keep VS6.out.b (Nat.le_refl _))).mono ?_
  rintro e w7 ⟨rfl, hb⟩
  have VS7 : Hid (VS w2 w7 w2.heap.size w4.heap.size (.cells #[.int .i64 st, .int .i64 pc, .slice p1 m c1, .int .i64 ss, .int .i64 en, .int .i64 la] 41) (.cells #[.int .i64 st, .int .i64 pc, .slice q1 m m, .int .i64 ss, .int .i64 en, .int .i64 la] 41) lo q1 q2 q3 sk cl ol) := VS6.out.on hb
  have HX7 : Hid (w7.heap[w3.heap.size]? = some (.cells #[.slice u.q0 u.n0 u.c0, .slice u.q1 u.n1 u.c1, .slice u.q2 u.n2 u.c2, .slice u.q3 u.n3 u.c3, .slice u.q4 u.n4 u.c4, .slice bA nA dA, .slice bP nP dP, .slice bL nL dL, .slice bO nO dO, .int .i64 tu, .bool sp, .slice bE nE dE] 55)) := row_on HX6.out hb
  have HB7 : Hid (Below w3.heap.size w3 w7) := bel_on (Nat.le_refl _) HB6.out hb
  have ka7 := box12_cells ((VS7.out.b.block _ HLT.out).trans HA2.out)
  have kw7 := box6_cells VS7.out.rw
  have kg7 := box6_cells VS7.out.rg
  have kx7 := box12_cells HX7.out
  clear hb
  clear VS6 ka6 kw6 kg6 HX6 kx6 HB6
  have HLW : Hid (LWK w7 w7 w.heap.size w3.heap.size (.cells #[.slice s.q0 s.n0 s.c0, .slice s.q1 s.n1 s.c1, .slice s.q2 s.n2 s.c2, .slice s.q3 s.n3 s.c3, .slice s.q4 s.n4 s.c4, .slice qA nA cA, .slice qP nP cP, .slice qL nL cL, .slice qO nO cO, .int .i64 tu, .bool sp, .slice qE nE cE] 36) (.cells #[.slice u.q0 u.n0 u.c0, .slice u.q1 u.n1 u.c1, .slice u.q2 u.n2 u.c2, .slice u.q3 u.n3 u.c3, .slice u.q4 u.n4 u.c4, .slice bA nA dA, .slice bP nP dP, .slice bL nL dL, .slice bO nO dO, .int .i64 tu, .bool sp, .slice bE nE dE] 55) ⟨u, bA, dA, bP, dP, bL, dL, bO, dO, bE, dE⟩ ⟨X, A, P, L, O, tu, sp, E⟩) := ⟨Below.refl _ _, (VS7.out.b.block _ HLT.out).trans HA2.out, HX7.out, HO3.out.rd.on HB7.out⟩
  have EQ : Hid (∀ W k8, RdK W ⟨u, bA, dA, bP, dP, bL, dL, bO, dO, bE, dE⟩ ⟨X, A, P, L, O, tu, sp, E⟩ → RdK W k8 ⟨X, A, P, L, O, tu, sp, E⟩ → Calls Try.prog 10 #[.agg #[.slice u.q0 u.n0 u.c0, .slice u.q1 u.n1 u.c1, .slice u.q2 u.n2 u.c2, .slice u.q3 u.n3 u.c3, .slice u.q4 u.n4 u.c4, .slice bA nA dA, .slice bP nP dP, .slice bL nL dL, .slice bO nO dO, .int .i64 tu, .bool sp, .slice bE nE dE], KerV k8 ⟨X, A, P, L, O, tu, sp, E⟩] W fun e w' => e = .returned (.bool true) ∧ Below W.heap.size W w') := by
    intro W k8 h1 h2
    have := eqK ⟨u, bA, dA, bP, dP, bL, dL, bO, dO, bE, dE⟩ k8 ⟨X, A, P, L, O, tu, sp, E⟩ W h1 h2 HS3.out
    rw [EB.out] at this
    exact this
  have HW7 : Hid (Below w.heap.size w w7) := bel_on (Nat.le_refl _) HW2.out VS7.out.b
  go_wp2
  clear ka7 kw7 kg7 kx7
  go_region_held3 (fun w' => w'.cell? ⟨w.heap.size, 0, none⟩ = some (.slice s.q0 s.n0 s.c0) ∧ w'.cell? ⟨w.heap.size, 1, none⟩ = some (.slice s.q1 s.n1 s.c1) ∧ w'.cell? ⟨w.heap.size, 2, none⟩ = some (.slice s.q2 s.n2 s.c2) ∧ w'.cell? ⟨w.heap.size, 3, none⟩ = some (.slice s.q3 s.n3 s.c3) ∧ w'.cell? ⟨w.heap.size, 4, none⟩ = some (.slice s.q4 s.n4 s.c4) ∧ w'.cell? ⟨w.heap.size, 5, none⟩ = some (.slice qA nA cA) ∧ w'.cell? ⟨w.heap.size, 6, none⟩ = some (.slice qP nP cP) ∧ w'.cell? ⟨w.heap.size, 7, none⟩ = some (.slice qL nL cL) ∧ w'.cell? ⟨w.heap.size, 8, none⟩ = some (.slice qO nO cO) ∧ w'.cell? ⟨w.heap.size, 9, none⟩ = some (.int .i64 tu) ∧ w'.cell? ⟨w.heap.size, 10, none⟩ = some (.bool sp) ∧ w'.cell? ⟨w.heap.size, 11, none⟩ = some (.slice qE nE cE) ∧ w'.cell? ⟨w3.heap.size, 0, none⟩ = some (.slice u.q0 u.n0 u.c0) ∧ w'.cell? ⟨w3.heap.size, 1, none⟩ = some (.slice u.q1 u.n1 u.c1) ∧ w'.cell? ⟨w3.heap.size, 2, none⟩ = some (.slice u.q2 u.n2 u.c2) ∧ w'.cell? ⟨w3.heap.size, 3, none⟩ = some (.slice u.q3 u.n3 u.c3) ∧ w'.cell? ⟨w3.heap.size, 4, none⟩ = some (.slice u.q4 u.n4 u.c4) ∧ w'.cell? ⟨w3.heap.size, 5, none⟩ = some (.slice bA nA dA) ∧ w'.cell? ⟨w3.heap.size, 6, none⟩ = some (.slice bP nP dP) ∧ w'.cell? ⟨w3.heap.size, 7, none⟩ = some (.slice bL nL dL) ∧ w'.cell? ⟨w3.heap.size, 8, none⟩ = some (.slice bO nO dO) ∧ w'.cell? ⟨w3.heap.size, 9, none⟩ = some (.int .i64 tu) ∧ w'.cell? ⟨w3.heap.size, 10, none⟩ = some (.bool sp) ∧ w'.cell? ⟨w3.heap.size, 11, none⟩ = some (.slice bE nE dE) ∧ LWK w7 w' w.heap.size w3.heap.size (.cells #[.slice s.q0 s.n0 s.c0, .slice s.q1 s.n1 s.c1, .slice s.q2 s.n2 s.c2, .slice s.q3 s.n3 s.c3, .slice s.q4 s.n4 s.c4, .slice qA nA cA, .slice qP nP cP, .slice qL nL cL, .slice qO nO cO, .int .i64 tu, .bool sp, .slice qE nE cE] 36) (.cells #[.slice u.q0 u.n0 u.c0, .slice u.q1 u.n1 u.c1, .slice u.q2 u.n2 u.c2, .slice u.q3 u.n3 u.c3, .slice u.q4 u.n4 u.c4, .slice bA nA dA, .slice bP nP dP, .slice bL nL dL, .slice bO nO dO, .int .i64 tu, .bool sp, .slice bE nE dE] 55) ⟨u, bA, dA, bP, dP, bL, dL, bO, dO, bE, dE⟩ ⟨X, A, P, L, O, tu, sp, E⟩)
    (first | (with_reducible exact lwk_conj HLW.out.drew) | (refine lwk_conj (LWK.on' (by assumption) (lwk_of (by assumption)))))
    (first | (go_at_call 6; refine (TK.out _ (HX.out.rd.keep (bel_on (Nat.le_refl _) HW7.out (lwk_of (by assumption)).b) (Nat.le_refl _))).mono ?_; rintro e w8 ⟨k8, rfl, hown8, hb8⟩; have HX8 : Hid (RdK w8 k8 ⟨X, A, P, L, O, tu, sp, E⟩) := hown8.rd; clear hown8) | (go_at_call 10; refine (EQ.out _ k8 (lwk_of (by assumption)).x HX8.out).mono ?_; rintro e w9 ⟨rfl, hb9⟩))
  rename_i HH
  have hb := (lwk_of HH).b
  have VS9 : Hid (VS w2 w9 w2.heap.size w4.heap.size (.cells #[.int .i64 st, .int .i64 pc, .slice p1 m c1, .int .i64 ss, .int .i64 en, .int .i64 la] 41) (.cells #[.int .i64 st, .int .i64 pc, .slice q1 m m, .int .i64 ss, .int .i64 en, .int .i64 la] 41) lo q1 q2 q3 sk cl ol) := VS7.out.on hb
  have HX9 : Hid (w9.heap[w3.heap.size]? = some (.cells #[.slice u.q0 u.n0 u.c0, .slice u.q1 u.n1 u.c1, .slice u.q2 u.n2 u.c2, .slice u.q3 u.n3 u.c3, .slice u.q4 u.n4 u.c4, .slice bA nA dA, .slice bP nP dP, .slice bL nL dL, .slice bO nO dO, .int .i64 tu, .bool sp, .slice bE nE dE] 55)) := row_on HX7.out hb
  have HB9 : Hid (Below w3.heap.size w3 w9) := bel_on (Nat.le_refl _) HB7.out hb
  clear HH hb hb8 hb9 HLW HX8 VS7 HX7 HB7 EQ HW7
  have ka9 := box12_cells ((VS9.out.b.block _ HLT.out).trans HA2.out)
  have kw9 := box6_cells VS9.out.rw
  have kg9 := box6_cells VS9.out.rg
  have kx9 := box12_cells HX9.out
  have MK := mkwK ⟨u, bA, dA, bP, dP, bL, dL, bO, dO, bE, dE⟩ ⟨X, A, P, L, O, tu, sp, E⟩ _ w3 w9 HO3.out HB9.out HS3.out
  rw [EB.out] at MK
  have HMK : Hid (Calls _ _ _ _ _) := MK
  clear MK
  go_wp2_with fail
  refine HMK.out.mono ?_
  rintro e w10 ⟨r10, rfl, hr10, hm⟩
  have hng : ¬ r10 < 0 := by omega
  have VS10 : Hid (VS w2 w10 w2.heap.size w4.heap.size (.cells #[.int .i64 st, .int .i64 pc, .slice p1 m c1, .int .i64 ss, .int .i64 en, .int .i64 la] 41) (.cells #[.int .i64 st, .int .i64 pc, .slice q1 m m, .int .i64 ss, .int .i64 en, .int .i64 la] 41) lo q1 q2 q3 sk cl ol) := VS9.out.mk' hm (by have := HNX.out; omega) (by have := HNX.out; omega)
  have ka10 := box12_cells ((VS10.out.b.block _ HLT.out).trans HA2.out)
  have kw10 := box6_cells VS10.out.rw
  have kg10 := box6_cells VS10.out.rg
  clear hm hr10 HMK VS9 HX9 HB9 ka9 kw9 kg9 kx9 HO3 HS3 EB
  go_wp2_with fail
  refine (eqPt st pc ss en la q1 p1 sk m m c1 HM.out s1 _ VS10.out.o1.rd (R1.out.keep VS10.out.b (Nat.le_refl _))).mono ?_
  rintro e w11 ⟨rfl, hb⟩
  have VS11 : Hid (VS w2 w11 w2.heap.size w4.heap.size (.cells #[.int .i64 st, .int .i64 pc, .slice p1 m c1, .int .i64 ss, .int .i64 en, .int .i64 la] 41) (.cells #[.int .i64 st, .int .i64 pc, .slice q1 m m, .int .i64 ss, .int .i64 en, .int .i64 la] 41) lo q1 q2 q3 sk cl ol) := VS10.out.on hb
  have ka11 := box12_cells ((VS11.out.b.block _ HLT.out).trans HA2.out)
  have kw11 := box6_cells VS11.out.rw
  have kg11 := box6_cells VS11.out.rg
  clear hb
  clear VS10 ka10 kw10 kg10
  go_wp2_with fail
  refine (C.eqInts q2 p2 cl n2 n2 c2 HN2.out s2 _ VS11.out.o2.rd (R2.out.keep VS11.out.b (Nat.le_refl _))).mono ?_
  rintro e w12 ⟨rfl, hb⟩
  have VS12 : Hid (VS w2 w12 w2.heap.size w4.heap.size (.cells #[.int .i64 st, .int .i64 pc, .slice p1 m c1, .int .i64 ss, .int .i64 en, .int .i64 la] 41) (.cells #[.int .i64 st, .int .i64 pc, .slice q1 m m, .int .i64 ss, .int .i64 en, .int .i64 la] 41) lo q1 q2 q3 sk cl ol) := VS11.out.on hb
  have ka12 := box12_cells ((VS12.out.b.block _ HLT.out).trans HA2.out)
  have kw12 := box6_cells VS12.out.rw
  have kg12 := box6_cells VS12.out.rg
  clear hb
  clear VS11 ka11 kw11 kg11
  go_wp2_with fail
  refine (C.eqInts q3 p3 ol n3 n3 c3 HN3.out s3 _ VS12.out.o3.rd (R3.out.keep VS12.out.b (Nat.le_refl _))).mono ?_
  rintro e w13 ⟨rfl, hb⟩
  have VS13 : Hid (VS w2 w13 w2.heap.size w4.heap.size (.cells #[.int .i64 st, .int .i64 pc, .slice p1 m c1, .int .i64 ss, .int .i64 en, .int .i64 la] 41) (.cells #[.int .i64 st, .int .i64 pc, .slice q1 m m, .int .i64 ss, .int .i64 en, .int .i64 la] 41) lo q1 q2 q3 sk cl ol) := VS12.out.on hb
  have ka13 := box12_cells ((VS13.out.b.block _ HLT.out).trans HA2.out)
  have kw13 := box6_cells VS13.out.rw
  have kg13 := box6_cells VS13.out.rg
  clear hb
  clear VS12 ka12 kw12 kg12
  go_wp2_with fail
  refine (markPV q1 sk lo m 1 st pc ss en la (1 : Int) rfl HM.out s1 (by omega) _ VS13.out.o1).mono ?_
  rintro e w14 ⟨rfl, ho, hc⟩
  have VS14 : Hid (VS w2 w14 w2.heap.size w4.heap.size (.cells #[.int .i64 st, .int .i64 pc, .slice p1 m c1, .int .i64 ss, .int .i64 en, .int .i64 la] 41) (.cells #[.int .i64 st, .int .i64 pc, .slice q1 m m, .int .i64 ss, .int .i64 en, .int .i64 la] 41) lo q1 q2 q3 (C.marks 1 m) cl ol) := VS13.out.m1 VDd.out hc ho
  have ka14 := box12_cells ((VS14.out.b.block _ HLT.out).trans HA2.out)
  have kw14 := box6_cells VS14.out.rw
  have kg14 := box6_cells VS14.out.rg
  clear ho hc
  clear VS13 ka13 kw13 kg13
  go_wp2_with fail
  refine (markV q2 cl lo n2 (1 + m) (1 + (m : Int)) (by simp) HN2.out s2 (by omega) _ VS14.out.o2).mono ?_
  rintro e w15 ⟨rfl, ho, hc⟩
  have VS15 : Hid (VS w2 w15 w2.heap.size w4.heap.size (.cells #[.int .i64 st, .int .i64 pc, .slice p1 m c1, .int .i64 ss, .int .i64 en, .int .i64 la] 41) (.cells #[.int .i64 st, .int .i64 pc, .slice q1 m m, .int .i64 ss, .int .i64 en, .int .i64 la] 41) lo q1 q2 q3 (C.marks 1 m) (C.marks (1 + m) n2) ol) := VS14.out.m2 VDd.out hc ho
  have ka15 := box12_cells ((VS15.out.b.block _ HLT.out).trans HA2.out)
  have kw15 := box6_cells VS15.out.rw
  have kg15 := box6_cells VS15.out.rg
  clear ho hc
  clear VS14 ka14 kw14 kg14
  go_wp2_with fail
  refine (markV q3 ol lo n3 (1 + m + n2) (1 + (m : Int) + (n2 : Int)) (by simp) HN3.out s3 (by omega) _ VS15.out.o3).mono ?_
  rintro e w16 ⟨rfl, ho, hc⟩
  have VS16 : Hid (VS w2 w16 w2.heap.size w4.heap.size (.cells #[.int .i64 st, .int .i64 pc, .slice p1 m c1, .int .i64 ss, .int .i64 en, .int .i64 la] 41) (.cells #[.int .i64 st, .int .i64 pc, .slice q1 m m, .int .i64 ss, .int .i64 en, .int .i64 la] 41) lo q1 q2 q3 (C.marks 1 m) (C.marks (1 + m) n2) (C.marks (1 + m + n2) n3)) := VS15.out.m3 VDd.out hc ho
  have ka16 := box12_cells ((VS16.out.b.block _ HLT.out).trans HA2.out)
  have kw16 := box6_cells VS16.out.rw
  have kg16 := box6_cells VS16.out.rg
  clear ho hc
  clear VS15 ka15 kw15 kg15
  go_wp2_with fail
  refine (heldPV q1 lo m 1 st pc ss en la (1 : Int) rfl s1 (by omega) _ VS16.out.o1).mono ?_
  rintro e w17 ⟨rfl, hb⟩
  have VS17 : Hid (VS w2 w17 w2.heap.size w4.heap.size (.cells #[.int .i64 st, .int .i64 pc, .slice p1 m c1, .int .i64 ss, .int .i64 en, .int .i64 la] 41) (.cells #[.int .i64 st, .int .i64 pc, .slice q1 m m, .int .i64 ss, .int .i64 en, .int .i64 la] 41) lo q1 q2 q3 (C.marks 1 m) (C.marks (1 + m) n2) (C.marks (1 + m + n2) n3)) := VS16.out.on hb
  have ka17 := box12_cells ((VS17.out.b.block _ HLT.out).trans HA2.out)
  have kw17 := box6_cells VS17.out.rw
  have kg17 := box6_cells VS17.out.rg
  clear hb
  clear VS16 ka16 kw16 kg16
  have hg1_17 : ¬ 1 + (m : Int) < 0 := by omega
  go_wp2_with fail
  refine (heldV q2 lo n2 (1 + m) (1 + (m : Int)) (by simp) s2 (by omega) _ VS17.out.o2).mono ?_
  rintro e w_ ⟨rfl, rfl⟩
  have hg2_17 : ¬ 1 + (m : Int) + (n2 : Int) < 0 := by omega
  go_wp2_with fail
  refine (heldV q3 lo n3 (1 + m + n2) (1 + (m : Int) + (n2 : Int)) (by simp) s3 (by omega) _ VS17.out.o3).mono ?_
  rintro e w_ ⟨rfl, rfl⟩
  have hg3_17 : ¬ 1 + (m : Int) + (n2 : Int) + (n3 : Int) < 0 := by omega
  go_wp2_with fail
  refine (TK.out _ (HX.out.rd.keep (bel_on (Nat.le_refl _) HW2.out VS17.out.b) (Nat.le_refl _))).mono ?_
  rintro e w20 ⟨k20, rfl, hown20, hb⟩
  have HX20 : Hid (RdK w20 k20 ⟨X, A, P, L, O, tu, sp, E⟩) := hown20.rd
  have HS20 : Hid (SmK k20 ⟨X, A, P, L, O, tu, sp, E⟩) := sm_ofK HS.out HX.out.rd hown20.rd
  have VS20 : Hid (VS w2 w20 w2.heap.size w4.heap.size (.cells #[.int .i64 st, .int .i64 pc, .slice p1 m c1, .int .i64 ss, .int .i64 en, .int .i64 la] 41) (.cells #[.int .i64 st, .int .i64 pc, .slice q1 m m, .int .i64 ss, .int .i64 en, .int .i64 la] 41) lo q1 q2 q3 (C.marks 1 m) (C.marks (1 + m) n2) (C.marks (1 + m + n2) n3)) := VS17.out.on hb
  clear hb hown20 VS17 ka17 kw17 kg17
  have VI := viewIX k20 ⟨X, A, P, L, O, tu, sp, E⟩ p ⟨st, pc, sk, ss, en, la⟩ cl ol HV.out w20 HX20.out HS20.out
  dsimp only at VI
  rw [HM.out, HN2.out, HN3.out] at VI
  have HVI : Hid (Calls _ _ _ _ _) := VI
  clear VI
  go_wp2_with fail
  refine HVI.out.mono ?_
  rintro e w21 ⟨r1, r2, r3, rfl, ⟨u1, u2, u3, _, _, _⟩, hb⟩
  have hal : Below w21.heap.size w21 (w21.alloc (.cells #[.int .i64 st, .int .i64 pc, .slice r1 m m, .int .i64 ss, .int .i64 en, .int .i64 la] 41)) := (Below.refl _ _).alloc (Nat.le_refl _) _
  have VS21 : Hid (VS w2 (w21.alloc (.cells #[.int .i64 st, .int .i64 pc, .slice r1 m m, .int .i64 ss, .int .i64 en, .int .i64 la] 41)) w2.heap.size w4.heap.size (.cells #[.int .i64 st, .int .i64 pc, .slice p1 m c1, .int .i64 ss, .int .i64 en, .int .i64 la] 41) (.cells #[.int .i64 st, .int .i64 pc, .slice q1 m m, .int .i64 ss, .int .i64 en, .int .i64 la] 41) lo q1 q2 q3 (C.marks 1 m) (C.marks (1 + m) n2) (C.marks (1 + m + n2) n3)) := (VS20.out.on hb).on hal
  have U1_21 : Hid (Rd (w21.alloc (.cells #[.int .i64 st, .int .i64 pc, .slice r1 m m, .int .i64 ss, .int .i64 en, .int .i64 la] 41)) r1 sk) := (u1.on hal).rd
  have U2_21 : Hid (Rd (w21.alloc (.cells #[.int .i64 st, .int .i64 pc, .slice r1 m m, .int .i64 ss, .int .i64 en, .int .i64 la] 41)) r2 cl) := (u2.on hal).rd
  have U3_21 : Hid (Rd (w21.alloc (.cells #[.int .i64 st, .int .i64 pc, .slice r1 m m, .int .i64 ss, .int .i64 en, .int .i64 la] 41)) r3 ol) := (u3.on hal).rd
  have HH21 : Hid ((w21.alloc (.cells #[.int .i64 st, .int .i64 pc, .slice r1 m m, .int .i64 ss, .int .i64 en, .int .i64 la] 41)).heap[w21.heap.size]? = some (.cells #[.int .i64 st, .int .i64 pc, .slice r1 m m, .int .i64 ss, .int .i64 en, .int .i64 la] 41)) := heap_new w21 _
  have kh21 := box6_cells HH21.out
  have ka21 := box12_cells ((VS21.out.b.block _ HLT.out).trans HA2.out)
  have kw21 := box6_cells VS21.out.rw
  have kg21 := box6_cells VS21.out.rg
  clear hb hal u1 u2 u3 VS20 HX20 HS20 HVI
  go_wp2_with fail
  refine (eqPt st pc ss en la r1 p1 sk m m c1 HM.out s1 _ U1_21.out (R1.out.keep VS21.out.b (Nat.le_refl _))).mono ?_
  rintro e w22 ⟨rfl, hb⟩
  have VS22 : Hid (VS w2 w22 w2.heap.size w4.heap.size (.cells #[.int .i64 st, .int .i64 pc, .slice p1 m c1, .int .i64 ss, .int .i64 en, .int .i64 la] 41) (.cells #[.int .i64 st, .int .i64 pc, .slice q1 m m, .int .i64 ss, .int .i64 en, .int .i64 la] 41) lo q1 q2 q3 (C.marks 1 m) (C.marks (1 + m) n2) (C.marks (1 + m + n2) n3)) := VS21.out.on hb
  have HH22 : Hid (w22.heap[w21.heap.size]? = some (.cells #[.int .i64 st, .int .i64 pc, .slice r1 m m, .int .i64 ss, .int .i64 en, .int .i64 la] 41)) := row_on HH21.out hb
  have kh22 := box6_cells HH22.out
  have U1_22 : Hid (Rd w22 r1 sk) := U1_21.out.keep hb (Nat.le_refl _)
  have U2_22 : Hid (Rd w22 r2 cl) := U2_21.out.keep hb (Nat.le_refl _)
  have U3_22 : Hid (Rd w22 r3 ol) := U3_21.out.keep hb (Nat.le_refl _)
  have ka22 := box12_cells ((VS22.out.b.block _ HLT.out).trans HA2.out)
  have kw22 := box6_cells VS22.out.rw
  have kg22 := box6_cells VS22.out.rg
  clear hb HH21 kh21 U1_21 U2_21 U3_21
  clear VS21 ka21 kw21 kg21
  go_wp2_with fail
  refine (C.eqInts r2 p2 cl n2 n2 c2 HN2.out s2 _ U2_22.out (R2.out.keep VS22.out.b (Nat.le_refl _))).mono ?_
  rintro e w23 ⟨rfl, hb⟩
  have VS23 : Hid (VS w2 w23 w2.heap.size w4.heap.size (.cells #[.int .i64 st, .int .i64 pc, .slice p1 m c1, .int .i64 ss, .int .i64 en, .int .i64 la] 41) (.cells #[.int .i64 st, .int .i64 pc, .slice q1 m m, .int .i64 ss, .int .i64 en, .int .i64 la] 41) lo q1 q2 q3 (C.marks 1 m) (C.marks (1 + m) n2) (C.marks (1 + m + n2) n3)) := VS22.out.on hb
  have HH23 : Hid (w23.heap[w21.heap.size]? = some (.cells #[.int .i64 st, .int .i64 pc, .slice r1 m m, .int .i64 ss, .int .i64 en, .int .i64 la] 41)) := row_on HH22.out hb
  have kh23 := box6_cells HH23.out
  have U1_23 : Hid (Rd w23 r1 sk) := U1_22.out.keep hb (Nat.le_refl _)
  have U2_23 : Hid (Rd w23 r2 cl) := U2_22.out.keep hb (Nat.le_refl _)
  have U3_23 : Hid (Rd w23 r3 ol) := U3_22.out.keep hb (Nat.le_refl _)
  have ka23 := box12_cells ((VS23.out.b.block _ HLT.out).trans HA2.out)
  have kw23 := box6_cells VS23.out.rw
  have kg23 := box6_cells VS23.out.rg
  clear hb HH22 kh22 U1_22 U2_22 U3_22
  clear VS22 ka22 kw22 kg22
  go_wp2_with fail
  refine (C.eqInts r3 p3 ol n3 n3 c3 HN3.out s3 _ U3_23.out (R3.out.keep VS23.out.b (Nat.le_refl _))).mono ?_
  rintro e w24 ⟨rfl, hb⟩
  have VS24 : Hid (VS w2 w24 w2.heap.size w4.heap.size (.cells #[.int .i64 st, .int .i64 pc, .slice p1 m c1, .int .i64 ss, .int .i64 en, .int .i64 la] 41) (.cells #[.int .i64 st, .int .i64 pc, .slice q1 m m, .int .i64 ss, .int .i64 en, .int .i64 la] 41) lo q1 q2 q3 (C.marks 1 m) (C.marks (1 + m) n2) (C.marks (1 + m + n2) n3)) := VS23.out.on hb
  have HH24 : Hid (w24.heap[w21.heap.size]? = some (.cells #[.int .i64 st, .int .i64 pc, .slice r1 m m, .int .i64 ss, .int .i64 en, .int .i64 la] 41)) := row_on HH23.out hb
  have kh24 := box6_cells HH24.out
  have U1_24 : Hid (Rd w24 r1 sk) := U1_23.out.keep hb (Nat.le_refl _)
  have U2_24 : Hid (Rd w24 r2 cl) := U2_23.out.keep hb (Nat.le_refl _)
  have U3_24 : Hid (Rd w24 r3 ol) := U3_23.out.keep hb (Nat.le_refl _)
  have ka24 := box12_cells ((VS24.out.b.block _ HLT.out).trans HA2.out)
  have kw24 := box6_cells VS24.out.rw
  have kg24 := box6_cells VS24.out.rg
  clear hb HH23 kh23 U1_23 U2_23 U3_23
  clear VS23 ka23 kw23 kg23
  go_wp2_with fail
  refine (heldPV q1 lo m 1 st pc ss en la (1 : Int) rfl s1 (by omega) _ VS24.out.o1).mono ?_
  rintro e w25 ⟨rfl, hb⟩
  have VS25 : Hid (VS w2 w25 w2.heap.size w4.heap.size (.cells #[.int .i64 st, .int .i64 pc, .slice p1 m c1, .int .i64 ss, .int .i64 en, .int .i64 la] 41) (.cells #[.int .i64 st, .int .i64 pc, .slice q1 m m, .int .i64 ss, .int .i64 en, .int .i64 la] 41) lo q1 q2 q3 (C.marks 1 m) (C.marks (1 + m) n2) (C.marks (1 + m + n2) n3)) := VS24.out.on hb
  have ka25 := box12_cells ((VS25.out.b.block _ HLT.out).trans HA2.out)
  have kw25 := box6_cells VS25.out.rw
  have kg25 := box6_cells VS25.out.rg
  clear hb
  clear VS24 ka24 kw24 kg24
  have hg1_25 : ¬ 1 + (m : Int) < 0 := by omega
  go_wp2_with fail
  refine (heldV q2 lo n2 (1 + m) (1 + (m : Int)) (by simp) s2 (by omega) _ VS25.out.o2).mono ?_
  rintro e w_ ⟨rfl, rfl⟩
  have hg2_25 : ¬ 1 + (m : Int) + (n2 : Int) < 0 := by omega
  go_wp2_with fail
  refine (heldV q3 lo n3 (1 + m + n2) (1 + (m : Int) + (n2 : Int)) (by simp) s3 (by omega) _ VS25.out.o3).mono ?_
  rintro e w_ ⟨rfl, rfl⟩
  have hg3_25 : ¬ 1 + (m : Int) + (n2 : Int) + (n3 : Int) < 0 := by omega
  have HWe : Hid (Below w.heap.size w _) := bel_on (Nat.le_refl _) HW2.out VS25.out.b
  clear VS25 ka25 kw25 kg25
  go_wp2
  go_ret
  exact ⟨rfl, HWe.out⟩
end Go.Proofs.Ytokcbfgajcelhab.fnExactPartView
