/-
  The specification's KernelOk.
-/
import Derived.Test.YtokcbfgajcelhaaGreatDoorKWrd
import Derived.Test.YtokcbfgajcelhaaGreatDoorFaultS
namespace Go.Proofs.YtokcbfgajcelhaaGreatDoor
open Go.ChangeShapes Go.WideShapes Go.ChangeAt Go.RowKit Go.PlainAid
set_option linter.unusedVariables false

set_option maxRecDepth 100000 in
set_option maxHeartbeats 8000000 in
theorem kerokS (k : KH) (K : KX) (f : Int) (b : Bool) (hf : FaultX K.X f) (hb : b = true ↔ KerR f K) (w : World) (h : RdK w k K) (hs : SmK k K) (hwf : WfU K.X.U) :
    Calls Tryz.prog 35 #[KerV k K] w fun e w' => e = .returned (.bool b) ∧ Below w.heap.size w w' := by
  obtain ⟨s, qA, cA, qP, cP, qL, cL, qO, cO, qE, cE⟩ := k
  obtain ⟨X, A, P, L, O, tu, sp, E⟩ := K
  have HX : Hid (RdK w ⟨s, qA, cA, qP, cP, qL, cL, qO, cO, qE, cE⟩ ⟨X, A, P, L, O, tu, sp, E⟩) := h
  have HS : Hid (SmK ⟨s, qA, cA, qP, cP, qL, cL, qO, cO, qE, cE⟩ ⟨X, A, P, L, O, tu, sp, E⟩) := hs
  have HF : Hid (FaultX X f) := hf
  have HB : Hid (b = true ↔ KerR f ⟨X, A, P, L, O, tu, sp, E⟩) := hb
  have HU : Hid (WfU X.U) := hwf
  obtain ⟨nA, hA⟩ : ∃ n, A.length = n := ⟨_, rfl⟩
  obtain ⟨nP, hP⟩ : ∃ n, P.length = n := ⟨_, rfl⟩
  obtain ⟨nL, hL⟩ : ∃ n, L.length = n := ⟨_, rfl⟩
  obtain ⟨nO, hO⟩ : ∃ n, O.length = n := ⟨_, rfl⟩
  obtain ⟨nE, hE⟩ : ∃ n, E.length = n := ⟨_, rfl⟩
  have HNA : Hid (A.length = nA) := hA
  have HNP : Hid (P.length = nP) := hP
  have HNL : Hid (L.length = nL) := hL
  have HNO : Hid (O.length = nO) := hO
  have HNE : Hid (E.length = nE) := hE
  have mA : nA ≤ 1048576 := by rw [← hA]; exact hs.a
  have mP : nP ≤ 1048576 := by rw [← hP]; exact hs.p
  have mL : nL ≤ 1048576 := by rw [← hL]; exact hs.l
  have mO : nO ≤ 1048576 := by rw [← hO]; exact hs.o
  have m0 : s.n0 ≤ 1048576 := hs.x.n0
  have m2 : s.n2 ≤ 1048576 := hs.x.n2
  unfold KerV
  dsimp only
  rw [hA, hP, hL, hO, hE]
  have HI0 : Hid ((w.alloc (.cells #[.slice s.q0 s.n0 s.c0, .slice s.q1 s.n1 s.c1, .slice s.q2 s.n2 s.c2, .slice s.q3 s.n3 s.c3, .slice s.q4 s.n4 s.c4, .slice qA nA cA, .slice qP nP cP, .slice qL nL cL, .slice qO nO cO, .int .i64 tu, .bool sp, .slice qE nE cE] 38)).heap[w.heap.size]? = some (.cells #[.slice s.q0 s.n0 s.c0, .slice s.q1 s.n1 s.c1, .slice s.q2 s.n2 s.c2, .slice s.q3 s.n3 s.c3, .slice s.q4 s.n4 s.c4, .slice qA nA cA, .slice qP nP cP, .slice qL nL cL, .slice qO nO cO, .int .i64 tu, .bool sp, .slice qE nE cE] 38)) := heap_new w _
  have HB0 : Hid (Below w.heap.size w (w.alloc (.cells #[.slice s.q0 s.n0 s.c0, .slice s.q1 s.n1 s.c1, .slice s.q2 s.n2 s.c2, .slice s.q3 s.n3 s.c3, .slice s.q4 s.n4 s.c4, .slice qA nA cA, .slice qP nP cP, .slice qL nL cL, .slice qO nO cO, .int .i64 tu, .bool sp, .slice qE nE cE] 38))) := (Below.refl _ _).alloc (Nat.le_refl _) _
  clear h hs hf hb hwf hA hP hL hO hE
  go_enter Tryz.func35, Tryz.ntmps35
  go_wp2_with fail
  refine (faultS s X f HF.out _ (HX.out.x.on HB0.out) HS.out.x HU.out).mono ?_
  rintro e w1 ⟨rfl, hb1⟩
  have HW1 : Hid (Below w.heap.size w w1) := bel_on (Nat.le_refl _) HB0.out hb1
  have HI1 : Hid (w1.heap[w.heap.size]? = some (.cells #[.slice s.q0 s.n0 s.c0, .slice s.q1 s.n1 s.c1, .slice s.q2 s.n2 s.c2, .slice s.q3 s.n3 s.c3, .slice s.q4 s.n4 s.c4, .slice qA nA cA, .slice qP nP cP, .slice qL nL cL, .slice qO nO cO, .int .i64 tu, .bool sp, .slice qE nE cE] 38)) := row_on HI0.out hb1
  have k1 := box12_cells HI1.out
  clear hb1 HI0 HB0
  by_cases h0 : f = 0
  case neg =>
    have HE : Hid (b = false) := not_that HB.out (fun h => h0 h.f)
    go_wp2
    go_ret
    exact ⟨by rw [HE.out]; rfl, HW1.out⟩
  subst h0

  by_cases h1 : nA = 64
  case neg =>
    have h1' : ¬ (nA : Int) = 64 := by omega
    have HE : Hid (b = false) := not_that HB.out (fun h => h1 (by have h2 := h.a; dsimp only at h2; rw [HNA.out] at h2; exact h2))
    go_wp2
    go_ret
    exact ⟨by rw [HE.out]; rfl, HW1.out⟩

  subst h1
  obtain ⟨b1, hb1⟩ := words_bool A
  have HV1 : Hid (b1 = true ↔ WordsR A) := hb1
  clear hb1
  go_wp2_with fail
  refine (wordsS qA A 64 cA b1 HNA.out (by omega) HV1.out _ (HX.out.a.keep HW1.out (Nat.le_refl _))).mono ?_
  rintro e w2 ⟨rfl, rfl⟩
  cases b1 with
  | false =>
    have HE : Hid (b = false) := not_that HB.out (fun h => by have := HV1.out.2 h.wa; cases this)
    go_wp2
    go_ret
    exact ⟨by rw [HE.out]; rfl, HW1.out⟩

  | true =>
  have V1 : Hid (WordsR A) := HV1.out.1 rfl
  clear HV1
  by_cases h2 : nP = s.n0
  case neg =>
    have h2' : ¬ (nP : Int) = (s.n0 : Int) := by omega
    have HE : Hid (b = false) := not_that HB.out (fun h => h2 (by have h3 := h.p; dsimp only at h3; rw [HNP.out, HX.out.x.l0] at h3; exact h3))
    go_wp2
    go_ret
    exact ⟨by rw [HE.out]; rfl, HW1.out⟩

  subst h2
  by_cases h3 : nL = s.n2
  case neg =>
    have h3' : ¬ (nL : Int) = (s.n2 : Int) := by omega
    have HE : Hid (b = false) := not_that HB.out (fun h => h3 (by have h4 := h.l.1; dsimp only at h4; rw [HNL.out, HX.out.x.l2] at h4; exact h4))
    go_wp2
    go_ret
    exact ⟨by rw [HE.out]; rfl, HW1.out⟩

  subst h3
  by_cases h4 : nO = 8
  case neg =>
    have h4' : ¬ (nO : Int) = 8 := by omega
    have HE : Hid (b = false) := not_that HB.out (fun h => h4 (by have h5 := h.o; dsimp only at h5; rw [HNO.out] at h5; exact h5))
    go_wp2
    go_ret
    exact ⟨by rw [HE.out]; rfl, HW1.out⟩

  subst h4
  obtain ⟨b2, hb2⟩ := words_bool O
  have HV2 : Hid (b2 = true ↔ WordsR O) := hb2
  clear hb2
  go_wp2_with fail
  refine (wordsS qO O 8 cO b2 HNO.out (by omega) HV2.out _ (HX.out.o.keep HW1.out (Nat.le_refl _))).mono ?_
  rintro e w2 ⟨rfl, rfl⟩
  cases b2 with
  | false =>
    have HE : Hid (b = false) := not_that HB.out (fun h => by have := HV2.out.2 h.wo; cases this)
    go_wp2
    go_ret
    exact ⟨by rw [HE.out]; rfl, HW1.out⟩

  | true =>
  have V2 : Hid (WordsR O) := HV2.out.1 rfl
  clear HV2
  by_cases h5 : 0 ≤ tu ∧ tu ≤ 1000000000
  case neg =>
    have hd : decide ((0 : Int) ≤ tu ∧ tu ≤ 1000000000) = false := decide_eq_false h5
    go_wp2_with fail
    refine (inS 0 1000000000 tu false hd _).mono ?_
    rintro e w2 ⟨rfl, rfl⟩
    clear hd
    have HE : Hid (b = false) := not_that HB.out (fun h => h5 h.t)
    go_wp2
    go_ret
    exact ⟨by rw [HE.out]; rfl, HW1.out⟩

  have hd : decide ((0 : Int) ≤ tu ∧ tu ≤ 1000000000) = true := decide_eq_true h5
  go_wp2_with fail
  refine (inS 0 1000000000 tu true hd _).mono ?_
  rintro e w2 ⟨rfl, rfl⟩
  clear hd
  have HALL : Hid (0 ≤ tu ∧ tu ≤ 1000000000) := h5
  clear h5 k1
  have k1 := box12_cells HI1.out
  go_wp2
  go_loopg [3] s.n0 (fun gk i wr => ∃ j : Nat, j + gk = s.n0 ∧ i = .int .i64 j ∧ Hid (AllP' P j) ∧ Hid (Below w.heap.size w wr) ∧ Hid (wr.heap[w.heap.size]? = some (.cells #[.slice s.q0 s.n0 s.c0, .slice s.q1 s.n1 s.c1, .slice s.q2 s.n2 s.c2, .slice s.q3 s.n3 s.c3, .slice s.q4 s.n4 s.c4, .slice qA 64 cA, .slice qP s.n0 cP, .slice qL s.n2 cL, .slice qO 8 cO, .int .i64 tu, .bool sp, .slice qE nE cE] 38)))
  case atStart => exact ⟨0, by omega, rfl, fun i _ h => by omega, HW1, HI1⟩
  case round =>
    clear k1 HW1 HI1
    obtain ⟨j, hj, rfl, HI, HW, HJ⟩ := hrel
    have k1 := box12_cells HJ.out
    by_cases hlt : j < s.n0
    · have hjl : j < P.length := by have := HNP.out; omega
      obtain ⟨g, off, ha, hc⟩ := HX.out.p (by show 0 < P.length; omega)
      dsimp only at ha
      rw [ha] at k1
      clear ha
      have c := (hc j hjl).keep HW.out (Nat.le_refl _)
      have hsz := HS.out.ps j hjl
      dsimp only at c hsz
      clear hc
      obtain ⟨Q, hQ⟩ : ∃ Q, Q = P[j] := ⟨_, rfl⟩
      have HQ : Hid (Q = P[j]) := hQ
      rw [← hQ] at c hsz
      clear hQ
      obtain ⟨st, pc, sk, ss, en, la⟩ := Q
      obtain ⟨c0, c1, ⟨b2, cc, c2, _, hrd⟩, c3, c4, c5⟩ := c
      dsimp only at c0 c1 c2 c3 c4 c5 hrd hsz
      obtain ⟨m, hm⟩ : ∃ m, sk.length = m := ⟨_, rfl⟩
      rw [hm] at c2 hsz
      have HM : Hid (sk.length = m) := hm
      have HAL : Hid (Below wr.heap.size wr (wr.alloc (.cells #[.int .i64 st, .int .i64 pc, .slice b2 m cc, .int .i64 ss, .int .i64 en, .int .i64 la] 55))) := (Below.refl _ _).alloc (Nat.le_refl _) _
      have HROW : Hid ((wr.alloc (.cells #[.int .i64 st, .int .i64 pc, .slice b2 m cc, .int .i64 ss, .int .i64 en, .int .i64 la] 55)).heap[wr.heap.size]? = some (.cells #[.int .i64 st, .int .i64 pc, .slice b2 m cc, .int .i64 ss, .int .i64 en, .int .i64 la] 55)) := heap_new wr _
      have HRD : Hid (Rd (wr.alloc (.cells #[.int .i64 st, .int .i64 pc, .slice b2 m cc, .int .i64 ss, .int .i64 en, .int .i64 la] 55)) b2 sk) := hrd.keep HAL.out (Nat.le_refl _)
      have HW2 : Hid (Below w.heap.size w (wr.alloc (.cells #[.int .i64 st, .int .i64 pc, .slice b2 m cc, .int .i64 ss, .int .i64 en, .int .i64 la] 55))) := bel_on (Nat.le_refl _) HW.out HAL.out
      have HJ2 : Hid ((wr.alloc (.cells #[.int .i64 st, .int .i64 pc, .slice b2 m cc, .int .i64 ss, .int .i64 en, .int .i64 la] 55)).heap[w.heap.size]? = some (.cells #[.slice s.q0 s.n0 s.c0, .slice s.q1 s.n1 s.c1, .slice s.q2 s.n2 s.c2, .slice s.q3 s.n3 s.c3, .slice s.q4 s.n4 s.c4, .slice qA 64 cA, .slice qP s.n0 cP, .slice qL s.n2 cL, .slice qO 8 cO, .int .i64 tu, .bool sp, .slice qE nE cE] 38)) := row_on HJ.out HAL.out
      clear hm hrd HW HJ HAL
      by_cases hs : 0 ≤ st ∧ st ≤ 1
      case neg =>
        have hd : decide ((0 : Int) ≤ st ∧ st ≤ 1) = false := decide_eq_false hs
        have HE : Hid (b = false) := not_that HB.out (fun h => hs (by have h1 := h.ps j hjl; dsimp only at h1; rw [← HQ.out] at h1; exact h1.1))
        go_wp2_with fail
        refine (inS 0 1 st false hd _).mono ?_
        rintro e w2 ⟨rfl, rfl⟩
        clear hd
        go_wp2
        go_ret
        exact ⟨by rw [HE.out]; rfl, HW2.out⟩
      have hd : decide ((0 : Int) ≤ st ∧ st ≤ 1) = true := decide_eq_true hs
      have HST : Hid (0 ≤ st ∧ st ≤ 1) := hs
      go_wp2_with fail
      refine (inS 0 1 st true hd _).mono ?_
      rintro e w2 ⟨rfl, rfl⟩
      clear hd hs c0 c1 c2 c3 c4 c5
      obtain ⟨x, hx⟩ := cpu_bool pc sk
      have HC : Hid (x = true ↔ CpuR pc sk) := hx
      clear hx
      go_wp2_with fail
      refine (cpuokS b2 pc sk m cc x HM.out (by omega) HC.out _ HRD.out).mono ?_
      rintro e w3 ⟨rfl, hb3⟩
      have HW3 : Hid (Below w.heap.size w w3) := bel_on (Nat.le_refl _) HW2.out hb3
      have HJ3 : Hid (w3.heap[w.heap.size]? = some (.cells #[.slice s.q0 s.n0 s.c0, .slice s.q1 s.n1 s.c1, .slice s.q2 s.n2 s.c2, .slice s.q3 s.n3 s.c3, .slice s.q4 s.n4 s.c4, .slice qA 64 cA, .slice qP s.n0 cP, .slice qL s.n2 cL, .slice qO 8 cO, .int .i64 tu, .bool sp, .slice qE nE cE] 38)) := row_on HJ2.out hb3
      have k6 := box6_cells (row_on HROW.out hb3)
      clear hb3 HW2 HJ2 HROW HRD k1
      cases x with
      | false =>
        have HE : Hid (b = false) := not_that HB.out (fun h => by have h1 := h.ps j hjl; dsimp only at h1; rw [← HQ.out] at h1; have h2 := HC.out.2 h1.2.1; cases h2)
        go_wp2
        go_ret
        exact ⟨by rw [HE.out]; rfl, HW3.out⟩
      | true =>
      have HCR : Hid (CpuR pc sk) := HC.out.1 rfl
      clear HC
      by_cases n1 : 0 ≤ ss ∧ ss ≤ 1000000000
      case neg =>
        have hd : decide ((0 : Int) ≤ ss ∧ ss ≤ 1000000000) = false := decide_eq_false n1
        have HE : Hid (b = false) := not_that HB.out (fun h => n1 (by have h1 := h.ps j hjl; dsimp only at h1; rw [← HQ.out] at h1; exact h1.2.2.1))
        go_wp2_with fail
        refine (inS 0 1000000000 ss false hd _).mono ?_
        rintro e w2 ⟨rfl, rfl⟩
        clear hd
        go_wp2
        go_ret
        exact ⟨by rw [HE.out]; rfl, HW3.out⟩
      have hd : decide ((0 : Int) ≤ ss ∧ ss ≤ 1000000000) = true := decide_eq_true n1
      have N1 : Hid (0 ≤ ss ∧ ss ≤ 1000000000) := n1
      go_wp2_with fail
      refine (inS 0 1000000000 ss true hd _).mono ?_
      rintro e w2 ⟨rfl, rfl⟩
      clear hd n1
      by_cases n2 : 0 ≤ en ∧ en ≤ 1000000000
      case neg =>
        have hd : decide ((0 : Int) ≤ en ∧ en ≤ 1000000000) = false := decide_eq_false n2
        have HE : Hid (b = false) := not_that HB.out (fun h => n2 (by have h1 := h.ps j hjl; dsimp only at h1; rw [← HQ.out] at h1; exact h1.2.2.2.1))
        go_wp2_with fail
        refine (inS 0 1000000000 en false hd _).mono ?_
        rintro e w2 ⟨rfl, rfl⟩
        clear hd
        go_wp2
        go_ret
        exact ⟨by rw [HE.out]; rfl, HW3.out⟩
      have hd : decide ((0 : Int) ≤ en ∧ en ≤ 1000000000) = true := decide_eq_true n2
      have N2 : Hid (0 ≤ en ∧ en ≤ 1000000000) := n2
      go_wp2_with fail
      refine (inS 0 1000000000 en true hd _).mono ?_
      rintro e w2 ⟨rfl, rfl⟩
      clear hd n2
      by_cases n3 : 0 ≤ la ∧ la ≤ 1000000000
      case neg =>
        have hd : decide ((0 : Int) ≤ la ∧ la ≤ 1000000000) = false := decide_eq_false n3
        have HE : Hid (b = false) := not_that HB.out (fun h => n3 (by have h1 := h.ps j hjl; dsimp only at h1; rw [← HQ.out] at h1; exact h1.2.2.2.2))
        go_wp2_with fail
        refine (inS 0 1000000000 la false hd _).mono ?_
        rintro e w2 ⟨rfl, rfl⟩
        clear hd
        go_wp2
        go_ret
        exact ⟨by rw [HE.out]; rfl, HW3.out⟩
      have hd : decide ((0 : Int) ≤ la ∧ la ≤ 1000000000) = true := decide_eq_true n3
      have HI' : Hid (AllP' P (j + 1)) := allP'_succ HI.out hjl (by rw [← HQ.out]; exact ⟨HST.out, HCR.out, N1.out, N2.out, n3⟩)
      go_wp2_with fail
      refine (inS 0 1000000000 la true hd _).mono ?_
      rintro e w2 ⟨rfl, rfl⟩
      clear hd n3 HI HST HCR N1 N2 HQ HM k6
      go_wp2
      go_roundg (gk - 1)
      case measure => omega
      case rel => exact ⟨j + 1, by omega, by go_num, HI', HW3, HJ3⟩
    · have HPS : Hid (PartsR P) := fun i h => HI.out i h (by have := HNP.out; omega)
      clear HI
      go_wp2
      go_loopg [5] s.n2 (fun gk i wr => ∃ j : Nat, j + gk = s.n2 ∧ i = .int .i64 j ∧ Hid (AllL X.O L j) ∧ Hid (Below w.heap.size w wr) ∧ Hid (wr.heap[w.heap.size]? = some (.cells #[.slice s.q0 s.n0 s.c0, .slice s.q1 s.n1 s.c1, .slice s.q2 s.n2 s.c2, .slice s.q3 s.n3 s.c3, .slice s.q4 s.n4 s.c4, .slice qA 64 cA, .slice qP s.n0 cP, .slice qL s.n2 cL, .slice qO 8 cO, .int .i64 tu, .bool sp, .slice qE nE cE] 38)))
      case atStart => exact ⟨0, by omega, rfl, fun i _ _ h => by omega, HW, HJ⟩
      case round =>
        clear k1 HW HJ hlt hj
        obtain ⟨i, hi, rfl, HI, HW, HJ⟩ := hrel
        have k1 := box12_cells HJ.out
        by_cases hlt : i < s.n2
        · have hil : i < L.length := by have := HNL.out; omega
          have hio : i < X.O.length := by have := HX.out.x.l2; dsimp only at this; omega
          obtain ⟨g, off, ha, hc⟩ := HX.out.l (by show 0 < L.length; omega)
          obtain ⟨g2, o2, ha2, hc2⟩ := HX.out.x.r2 (by show 0 < X.O.length; omega)
          dsimp only at ha ha2
          rw [ha] at k1
          clear ha
          have c := (hc i hil).keep HW.out (Nat.le_refl _)
          have d := (hc2 i hio).2.2.2.1
          dsimp only at c d
          have d3 := (HW.out.cell (p := ⟨g2, o2 + i * 5 + 3, none⟩) (World.block_lt_of_cell? w _ d)).trans d
          have hsz := HS.out.ls i hil
          dsimp only at hsz
          clear hc hc2 d
          obtain ⟨b2, cc, c2, _, _⟩ := c
          obtain ⟨k, hk⟩ : ∃ k, L[i].length = k := ⟨_, rfl⟩
          obtain ⟨z, hz⟩ : ∃ z, X.O[i].2.2.2.1 = z := ⟨_, rfl⟩
          rw [hk] at c2 hsz
          rw [hz] at d3
          have HK : Hid (L[i].length = k) := hk
          have HZ : Hid (X.O[i].2.2.2.1 = z) := hz
          rw [ha2] at k1
          have HH2 : Hid (s.q2 = some ⟨g2, o2, none⟩) := ha2
          clear hk hz ha2
          have i0 : (0 : Int) ≤ (i : Int) := by omega
          have i1 : (i : Int) < (s.n2 : Int) := by omega
          by_cases hle : (k : Int) ≤ z
          · have HI' : Hid (AllL X.O L (i + 1)) := by
              intro a ha1 ha2 haj
              by_cases e : a = i
              · subst e; rw [HK.out, HZ.out]; exact hle
              · exact HI.out a ha1 ha2 (by omega)
            have hgt : ¬ z < (k : Int) := by omega
            clear HI HK HZ hle HB HF HU HPS HALL
            go_wp2
            go_quiet (fail)
            go_wp2
            go_roundg (gk - 1)
            case measure => omega
            case rel => exact ⟨i + 1, by omega, by go_num, HI', bel_drewN HW.out _, HJ⟩
          · have HE : Hid (b = false) := not_that HB.out (fun h => hle (by have h1 := h.l.2 i hil hio; dsimp only at h1; rw [HK.out, HZ.out] at h1; exact h1))
            have hgt : z < (k : Int) := by omega
            clear HI HK HZ hle HB HF HU HPS HALL
            go_wp2
            go_quiet (fail)
            go_wp2
            go_ret
            exact ⟨by rw [HE.out]; rfl, bel_drewN HW.out _⟩
        · have HE : Hid (b = true) := HB.out.2 ⟨rfl, by show A.length = 64; exact HNA.out, V1.out, by show P.length = X.R.length; rw [HNP.out, HX.out.x.l0], ⟨by show L.length = X.O.length; rw [HNL.out, HX.out.x.l2], fun a h h' => HI.out a h h' (by have h3 : a < L.length := h; have := HNL.out; omega)⟩, by show O.length = 8; exact HNO.out, V2.out, HALL.out, HPS.out⟩
          clear HI
          go_wp2
          go_ret
          exact ⟨by rw [HE.out]; rfl, HW.out⟩
end Go.Proofs.YtokcbfgajcelhaaGreatDoor
