/-
  The program's KernelOk.
-/
import Derived.Test.YtokcbfgajcelhaaGreatDoorKWrd
import Derived.Test.YtokcbfgajcelhaaGreatDoorSetI11
namespace Go.Proofs.YtokcbfgajcelhaaGreatDoor
open Go.ChangeShapes Go.WideShapes Go.ChangeAt Go.RowKit Go.PlainAid
set_option linter.unusedVariables false

set_option maxRecDepth 100000 in
set_option maxHeartbeats 8000000 in
theorem kerokI (k : KH) (K : KX) (f : Int) (b : Bool) (hf : FaultX K.X f) (hb : b = true ↔ KerR f K) (w : World) (h : RdK w k K) (hs : SmK k K) (hwf : WfU K.X.U) (hcap : k.s.n0 ≤ k.s.c0) (hg : Hnd w) :
    Calls Tryz.prog 20 #[KerV k K] w fun e w' => e = .returned (.bool b) ∧ Below w.heap.size w w' := by
  obtain ⟨s, qA, cA, qP, cP, qL, cL, qO, cO, qE, cE⟩ := k
  obtain ⟨X, A, P, L, O, tu, sp, E⟩ := K
  have HX : Hid (RdK w ⟨s, qA, cA, qP, cP, qL, cL, qO, cO, qE, cE⟩ ⟨X, A, P, L, O, tu, sp, E⟩) := h
  have HS : Hid (SmK ⟨s, qA, cA, qP, cP, qL, cL, qO, cO, qE, cE⟩ ⟨X, A, P, L, O, tu, sp, E⟩) := hs
  have HF : Hid (FaultX X f) := hf
  have HB : Hid (b = true ↔ KerR f ⟨X, A, P, L, O, tu, sp, E⟩) := hb
  have HU : Hid (WfU X.U) := hwf
  obtain ⟨nA, hA⟩ : ∃ n, A.length = n := ⟨_, rfl⟩
  obtain ⟨nP, hP⟩ : ∃ n, P.length = n := ⟨_, rfl⟩
  obtain ⟨nL, hL⟩ : ∃ n, L.length = n := ⟨_, rfl⟩
  obtain ⟨nO, hO⟩ : ∃ n, O.length = n := ⟨_, rfl⟩
  obtain ⟨nE, hE⟩ : ∃ n, E.length = n := ⟨_, rfl⟩
  have HNA : Hid (A.length = nA) := hA
  have HNP : Hid (P.length = nP) := hP
  have HNL : Hid (L.length = nL) := hL
  have HNO : Hid (O.length = nO) := hO
  have HNE : Hid (E.length = nE) := hE
  have mA : nA ≤ 1048576 := by rw [← hA]; exact hs.a
  have mP : nP ≤ 1048576 := by rw [← hP]; exact hs.p
  have mL : nL ≤ 1048576 := by rw [← hL]; exact hs.l
  have mO : nO ≤ 1048576 := by rw [← hO]; exact hs.o
  have m0 : s.n0 ≤ 1048576 := hs.x.n0
  have m2 : s.n2 ≤ 1048576 := hs.x.n2
  unfold KerV
  dsimp only
  rw [hA, hP, hL, hO, hE]
  have HI0 : Hid ((w.alloc (.cells #[.slice s.q0 s.n0 s.c0, .slice s.q1 s.n1 s.c1, .slice s.q2 s.n2 s.c2, .slice s.q3 s.n3 s.c3, .slice s.q4 s.n4 s.c4, .slice qA nA cA, .slice qP nP cP, .slice qL nL cL, .slice qO nO cO, .int .i64 tu, .bool sp, .slice qE nE cE] 38)).heap[w.heap.size]? = some (.cells #[.slice s.q0 s.n0 s.c0, .slice s.q1 s.n1 s.c1, .slice s.q2 s.n2 s.c2, .slice s.q3 s.n3 s.c3, .slice s.q4 s.n4 s.c4, .slice qA nA cA, .slice qP nP cP, .slice qL nL cL, .slice qO nO cO, .int .i64 tu, .bool sp, .slice qE nE cE] 38)) := heap_new w _
  have HB0 : Hid (Below w.heap.size w (w.alloc (.cells #[.slice s.q0 s.n0 s.c0, .slice s.q1 s.n1 s.c1, .slice s.q2 s.n2 s.c2, .slice s.q3 s.n3 s.c3, .slice s.q4 s.n4 s.c4, .slice qA nA cA, .slice qP nP cP, .slice qL nL cL, .slice qO nO cO, .int .i64 tu, .bool sp, .slice qE nE cE] 38))) := (Below.refl _ _).alloc (Nat.le_refl _) _
  have HG : Hid (Hnd (w.alloc (.cells #[.slice s.q0 s.n0 s.c0, .slice s.q1 s.n1 s.c1, .slice s.q2 s.n2 s.c2, .slice s.q3 s.n3 s.c3, .slice s.q4 s.n4 s.c4, .slice qA nA cA, .slice qP nP cP, .slice qL nL cL, .slice qO nO cO, .int .i64 tu, .bool sp, .slice qE nE cE] 38))) := hg.on HB0.out
  have HC0 : Hid (s.n0 ≤ s.c0) := hcap
  clear h hs hf hb hwf hA hP hL hO hE hg hcap
  go_enter Tryz.func20, Tryz.ntmps20
  go_wp2_with fail
  refine (faultI s X f HF.out _ (HX.out.x.on HB0.out) HS.out.x HU.out HC0.out HG.out).mono ?_
  rintro e w1 ⟨rfl, hb1⟩
  have HW1 : Hid (Below w.heap.size w w1) := bel_on (Nat.le_refl _) HB0.out hb1
  have HI1 : Hid (w1.heap[w.heap.size]? = some (.cells #[.slice s.q0 s.n0 s.c0, .slice s.q1 s.n1 s.c1, .slice s.q2 s.n2 s.c2, .slice s.q3 s.n3 s.c3, .slice s.q4 s.n4 s.c4, .slice qA nA cA, .slice qP nP cP, .slice qL nL cL, .slice qO nO cO, .int .i64 tu, .bool sp, .slice qE nE cE] 38)) := row_on HI0.out hb1
  have k1 := box12_cells HI1.out
  clear hb1 HI0 HB0 HG HC0
  by_cases h0 : f = 0
  case neg =>
    have HE : Hid (b = false) := not_that HB.out (fun h => h0 h.f)
    go_wp2
    go_ret
    exact ⟨by rw [HE.out]; rfl, HW1.out⟩
  subst h0

  by_cases h1 : nA = 64
  case neg =>
    have h1' : ¬ (nA : Int) = 64 := by omega
    have HE : Hid (b = false) := not_that HB.out (fun h => h1 (by have h2 := h.a; dsimp only at h2; rw [HNA.out] at h2; exact h2))
    go_wp2
    go_ret
    exact ⟨by rw [HE.out]; rfl, HW1.out⟩

  subst h1
  obtain ⟨b1, hb1⟩ := words_bool A
  have HV1 : Hid (b1 = true ↔ WordsR A) := hb1
  clear hb1
  go_wp2_with fail
  refine (wordsI qA A 64 cA b1 HNA.out (by omega) HV1.out _ (HX.out.a.keep HW1.out (Nat.le_refl _))).mono ?_
  rintro e wb ⟨rfl, hbb⟩
  have HWb : Hid (Below w.heap.size w wb) := bel_on (Nat.le_refl _) HW1.out hbb
  have HIb : Hid (wb.heap[w.heap.size]? = some (.cells #[.slice s.q0 s.n0 s.c0, .slice s.q1 s.n1 s.c1, .slice s.q2 s.n2 s.c2, .slice s.q3 s.n3 s.c3, .slice s.q4 s.n4 s.c4, .slice qA 64 cA, .slice qP nP cP, .slice qL nL cL, .slice qO nO cO, .int .i64 tu, .bool sp, .slice qE nE cE] 38)) := row_on HI1.out hbb
  clear k1
  have k1 := box12_cells HIb.out
  clear hbb HI1 HW1
  cases b1 with
  | false =>
    have HE : Hid (b = false) := not_that HB.out (fun h => by have := HV1.out.2 h.wa; cases this)
    go_wp2
    go_ret
    exact ⟨by rw [HE.out]; rfl, HWb.out⟩

  | true =>
  have V1 : Hid (WordsR A) := HV1.out.1 rfl
  clear HV1
  by_cases h2 : nP = s.n0
  case neg =>
    have h2' : ¬ (nP : Int) = (s.n0 : Int) := by omega
    have HE : Hid (b = false) := not_that HB.out (fun h => h2 (by have h3 := h.p; dsimp only at h3; rw [HNP.out, HX.out.x.l0] at h3; exact h3))
    go_wp2
    go_ret
    exact ⟨by rw [HE.out]; rfl, HWb.out⟩

  subst h2
  obtain ⟨b2, hb2⟩ : ∃ b : Bool, b = true ↔ PartsR P := by
    by_cases hk : PartsR P
    · exact ⟨true, ⟨fun _ => hk, fun _ => rfl⟩⟩
    · exact ⟨false, ⟨fun h => (by cases h), fun h => absurd h hk⟩⟩
  have HV2 : Hid (b2 = true ↔ PartsR P) := hb2
  clear hb2
  go_wp2_with fail
  refine (partsI qP P s.n0 cP b2 HNP.out mP HS.out.ps HV2.out _ (HX.out.p.on HWb.out)).mono ?_
  rintro e w2 ⟨rfl, hb2⟩
  have HW2 : Hid (Below w.heap.size w w2) := bel_on (Nat.le_refl _) HWb.out hb2
  have HI2 : Hid (w2.heap[w.heap.size]? = some (.cells #[.slice s.q0 s.n0 s.c0, .slice s.q1 s.n1 s.c1, .slice s.q2 s.n2 s.c2, .slice s.q3 s.n3 s.c3, .slice s.q4 s.n4 s.c4, .slice qA 64 cA, .slice qP s.n0 cP, .slice qL nL cL, .slice qO nO cO, .int .i64 tu, .bool sp, .slice qE nE cE] 38)) := row_on HIb.out hb2
  clear k1
  have k1 := box12_cells HI2.out
  clear hb2 HIb HWb
  cases b2 with
  | false =>
    have HE : Hid (b = false) := not_that HB.out (fun h => by have := HV2.out.2 h.ps; cases this)
    go_wp2
    go_ret
    exact ⟨by rw [HE.out]; rfl, HW2.out⟩

  | true =>
  have V2 : Hid (PartsR P) := HV2.out.1 rfl
  clear HV2
  obtain ⟨b3, hb3⟩ : ∃ b : Bool, b = true ↔ LinesR X.O L := by
    by_cases hk : LinesR X.O L
    · exact ⟨true, ⟨fun _ => hk, fun _ => rfl⟩⟩
    · exact ⟨false, ⟨fun h => (by cases h), fun h => absurd h hk⟩⟩
  have HV3 : Hid (b3 = true ↔ LinesR X.O L) := hb3
  clear hb3
  go_wp2_with fail
  refine (linesI s.q2 qL X.O L s.n2 nL s.c2 cL b3 HX.out.x.l2 m2 HNL.out mL HS.out.ls HV3.out _ (HX.out.x.r2.keep HW2.out (Nat.le_refl _)) (HX.out.l.on HW2.out)).mono ?_
  rintro e w3 ⟨rfl, hb3⟩
  have HW3 : Hid (Below w.heap.size w w3) := bel_on (Nat.le_refl _) HW2.out hb3
  have HI3 : Hid (w3.heap[w.heap.size]? = some (.cells #[.slice s.q0 s.n0 s.c0, .slice s.q1 s.n1 s.c1, .slice s.q2 s.n2 s.c2, .slice s.q3 s.n3 s.c3, .slice s.q4 s.n4 s.c4, .slice qA 64 cA, .slice qP s.n0 cP, .slice qL nL cL, .slice qO nO cO, .int .i64 tu, .bool sp, .slice qE nE cE] 38)) := row_on HI2.out hb3
  clear k1
  have k1 := box12_cells HI3.out
  clear hb3 HI2 HW2
  cases b3 with
  | false =>
    have HE : Hid (b = false) := not_that HB.out (fun h => by have := HV3.out.2 h.l; cases this)
    go_wp2
    go_ret
    exact ⟨by rw [HE.out]; rfl, HW3.out⟩

  | true =>
  have V3 : Hid (LinesR X.O L) := HV3.out.1 rfl
  clear HV3
  by_cases h4 : nO = 8
  case neg =>
    have h4' : ¬ (nO : Int) = 8 := by omega
    have HE : Hid (b = false) := not_that HB.out (fun h => h4 (by have h5 := h.o; dsimp only at h5; rw [HNO.out] at h5; exact h5))
    go_wp2
    go_ret
    exact ⟨by rw [HE.out]; rfl, HW3.out⟩

  subst h4
  obtain ⟨b4, hb4⟩ := words_bool O
  have HV4 : Hid (b4 = true ↔ WordsR O) := hb4
  clear hb4
  go_wp2_with fail
  refine (wordsI qO O 8 cO b4 HNO.out (by omega) HV4.out _ (HX.out.o.keep HW3.out (Nat.le_refl _))).mono ?_
  rintro e w4 ⟨rfl, hb4⟩
  have HW4 : Hid (Below w.heap.size w w4) := bel_on (Nat.le_refl _) HW3.out hb4
  have HI4 : Hid (w4.heap[w.heap.size]? = some (.cells #[.slice s.q0 s.n0 s.c0, .slice s.q1 s.n1 s.c1, .slice s.q2 s.n2 s.c2, .slice s.q3 s.n3 s.c3, .slice s.q4 s.n4 s.c4, .slice qA 64 cA, .slice qP s.n0 cP, .slice qL nL cL, .slice qO 8 cO, .int .i64 tu, .bool sp, .slice qE nE cE] 38)) := row_on HI3.out hb4
  clear k1
  have k1 := box12_cells HI4.out
  clear hb4 HI3 HW3
  cases b4 with
  | false =>
    have HE : Hid (b = false) := not_that HB.out (fun h => by have := HV4.out.2 h.wo; cases this)
    go_wp2
    go_ret
    exact ⟨by rw [HE.out]; rfl, HW4.out⟩

  | true =>
  have V4 : Hid (WordsR O) := HV4.out.1 rfl
  clear HV4
  obtain ⟨b5, hd⟩ : ∃ x, decide (0 ≤ tu ∧ tu ≤ 1000000000) = x := ⟨_, rfl⟩
  have HE : Hid (b5 = b) := by
    show b5 = b
    rw [← hd]
    by_cases hk : 0 ≤ tu ∧ tu ≤ 1000000000
    · rw [decide_eq_true hk]
      exact (HB.out.2 ⟨rfl, by show A.length = 64; exact HNA.out, V1.out, by show P.length = X.R.length; rw [HNP.out, HX.out.x.l0], V3.out, by show O.length = 8; exact HNO.out, V4.out, hk, V2.out⟩).symm
    · rw [decide_eq_false hk]
      exact (not_that HB.out (fun h => hk h.t)).symm
  go_wp2_with fail
  refine (numI tu b5 hd _).mono ?_
  rintro e w5 ⟨rfl, hb5⟩
  have HW5 : Hid (Below w.heap.size w w5) := bel_on (Nat.le_refl _) HW4.out hb5
  clear hb5
  go_wp2
  go_ret
  exact ⟨by rw [HE.out]; rfl, HW5.out⟩
end Go.Proofs.YtokcbfgajcelhaaGreatDoor
