/-
  SetupFault of the specification.
-/
import Derived.Test.YtphijlknefgkiaaGreatDoorPartsS
namespace Go.Proofs.YtphijlknefgkiaaGreatDoor
open Go.RowKit Go.PlainAid
set_option linter.unusedVariables false

set_option maxRecDepth 100000 in
set_option maxHeartbeats 4000000 in
theorem faultS (s : SH) (X : SX) (f : Int) (hf : FaultX X f) (w : World) (h : RdX w s X) (hs : SmX s X) (hwf : WfU X.U) :
    Calls Tryz.prog 18 #[SetV s] w fun e w' => e = .returned (.int .i64 f) ∧ Below w.heap.size w w' := by
  have HFX : Hid (FaultX X f) := hf
  have HH : Hid (RdX w s X ∧ SmX s X) := ⟨h, hs⟩
  have HWF : Hid (WfU X.U) := hwf
  have hSZ : ∀ j (hj : j < X.S.length), (X.S[j]).size ≤ 1048576 := fun j hj => Nat.le_trans (S.size_le_bytes hj) hs.b
  have HSZ : Hid (∀ j (hj : j < X.S.length), (X.S[j]).size ≤ 1048576) := hSZ
  obtain ⟨s0, s1, s2, s3, s4, _⟩ := hs
  clear hf hwf hSZ
  obtain ⟨q0, n0, c0, q1, n1, c1, q2, n2, c2, q3, n3, c3, q4, n4, c4⟩ := s
  obtain ⟨l0, r0, l1, r1, l2, r2, l3, r3, l4, r4⟩ := h
  dsimp only at l0 r0 l1 r1 l2 r2 l3 r3 l4 r4 s0 s1 s2 s3 s4
  have HL0 : Hid (_ = n0) := l0
  have HL1 : Hid (_ = n1) := l1
  have HL2 : Hid (_ = n2) := l2
  have HL3 : Hid (_ = n3) := l3
  have HL4 : Hid (_ = n4) := l4
  have HR0 : Hid (R.RdR w q0 _) := r0
  have HR1 : Hid (RdR w q1 _) := r1
  have HR2 : Hid (RdO w q2 _) := r2
  have HR3 : Hid (RdU w q3 _) := r3
  have HR4 : Hid (S.RdS w q4 _) := r4
  clear l0 r0 l1 r1 l2 r2 l3 r3 l4 r4
  have HB0 : Hid (Below w.heap.size w (w.alloc (.cells #[.slice q0 n0 c0, .slice q1 n1 c1, .slice q2 n2 c2, .slice q3 n3 c3, .slice q4 n4 c4] 35))) := (Below.refl _ _).alloc (Nat.le_refl _) _
  have HP0 : Hid ((w.alloc (.cells #[.slice q0 n0 c0, .slice q1 n1 c1, .slice q2 n2 c2, .slice q3 n3 c3, .slice q4 n4 c4] 35)).heap[w.heap.size]? = some (.cells #[.slice q0 n0 c0, .slice q1 n1 c1, .slice q2 n2 c2, .slice q3 n3 c3, .slice q4 n4 c4] 35)) := heap_new w _
  unfold SetV
  dsimp only
  go_enter Tryz.func18, Tryz.ntmps18
  obtain ⟨b0, hb0⟩ := prop_bool (R.RegsOk X.R)
  have HBB0 : Hid (b0 = true ↔ R.RegsOk X.R) := hb0
  clear hb0
  go_wp2_with fail
  refine (R.regsS q0 X.R n0 c0 b0 HL0.out s0 HBB0.out _ (HR0.out.keep HB0.out (Nat.le_refl _))).mono ?_
  rintro e w1 ⟨rfl, hb'⟩
  have hb : Below ((w.alloc (.cells #[.slice q0 n0 c0, .slice q1 n1 c1, .slice q2 n2 c2, .slice q3 n3 c3, .slice q4 n4 c4] 35))).heap.size (w.alloc (.cells #[.slice q0 n0 c0, .slice q1 n1 c1, .slice q2 n2 c2, .slice q3 n3 c3, .slice q4 n4 c4] 35)) w1 := by first | exact hb' | (rw [hb']; exact Below.refl _ _)
  clear hb'
  have HB1 : Hid (Below w.heap.size w w1) := bel_on (Nat.le_refl _) HB0.out hb
  have HP1 : Hid (w1.heap[w.heap.size]? = some (.cells #[.slice q0 n0 c0, .slice q1 n1 c1, .slice q2 n2 c2, .slice q3 n3 c3, .slice q4 n4 c4] 35)) := row_on HP0.out hb
  have kp1 := boxO_cells HP1.out
  clear hb HB0 HP0 
  cases b0
  · have HE : Hid (f = 1) := fault1 HFX.out (fun h => by have := HBB0.out.2 h; cases this)
    go_wp2
    go_ret
    exact ⟨by rw [HE.out]; rfl, HB1.out⟩
  · have H1 : Hid (R.RegsOk X.R) := HBB0.out.1 (by first | rfl | trivial)
    clear HBB0
    obtain ⟨b1, hb1⟩ := prop_bool (PlanR X.W)
    have HBB1 : Hid (b1 = true ↔ PlanR X.W) := hb1
    clear hb1
    go_wp2_with fail
    refine (planS q1 X.W n1 c1 b1 HL1.out (by omega) HBB1.out _ (HR1.out.keep HB1.out (Nat.le_refl _))).mono ?_
    rintro e w2 ⟨rfl, hb'⟩
    have hb : Below (w1).heap.size w1 w2 := by first | exact hb' | (rw [hb']; exact Below.refl _ _)
    clear hb'
    have HB2 : Hid (Below w.heap.size w w2) := bel_on (Nat.le_refl _) HB1.out hb
    have HP2 : Hid (w2.heap[w.heap.size]? = some (.cells #[.slice q0 n0 c0, .slice q1 n1 c1, .slice q2 n2 c2, .slice q3 n3 c3, .slice q4 n4 c4] 35)) := row_on HP1.out hb
    have kp2 := boxO_cells HP2.out
    clear hb HB1 HP1 kp1
    cases b1
    · have HE : Hid (f = 2) := fault2 HFX.out H1.out (fun h => by have := HBB1.out.2 h; cases this)
      go_wp2
      go_ret
      exact ⟨by rw [HE.out]; rfl, HB2.out⟩
    · have H2 : Hid (PlanR X.W) := HBB1.out.1 (by first | rfl | trivial)
      clear HBB1
      go_wp2
      clear kp2
      go_loopg [3] n2 (fun gk i wr => ∃ j : Nat, j + gk = n2 ∧ i = .int .i64 j ∧ j ≤ 6 ∧ Hid (∀ i (h : i < X.O.length), i < j → prtR X.O[i]) ∧ Hid (Below w.heap.size w wr) ∧ Hid (wr.heap[w.heap.size]? = some (.cells #[.slice q0 n0 c0, .slice q1 n1 c1, .slice q2 n2 c2, .slice q3 n3 c3, .slice q4 n4 c4] 35)))
      case atStart => exact ⟨0, by omega, rfl, by omega, fun i _ h => by omega, HB2, HP2⟩
      case round =>
        clear HB2 HP2
        obtain ⟨j, hj, rfl, hj6, HI, HW, HP⟩ := hrel
        have kp := boxO_cells HP.out
        by_cases hlt : j < n2
        · have hjl : j < X.O.length := by have := HL2.out; omega
          obtain ⟨g, off, ha, hc⟩ := HR2.out (by omega)
          have hgl : g < w.heap.size := World.block_lt_of_cell? w ⟨g, off + j * 5, none⟩ (hc j hjl).1
          subst ha
          have cc := hc j hjl
          have cf0 := (HW.out.cell (p := ⟨g, off + j * 5, none⟩) hgl).trans cc.1
          have cf1 := (HW.out.cell (p := ⟨g, off + j * 5 + 1, none⟩) hgl).trans cc.2.1
          have cf2 := (HW.out.cell (p := ⟨g, off + j * 5 + 2, none⟩) hgl).trans cc.2.2.1
          have cf3 := (HW.out.cell (p := ⟨g, off + j * 5 + 3, none⟩) hgl).trans cc.2.2.2.1
          have cf4 := (HW.out.cell (p := ⟨g, off + j * 5 + 4, none⟩) hgl).trans cc.2.2.2.2
          clear hc cc
          obtain ⟨x0, e0⟩ : ∃ x, (X.O[j]).1 = x := ⟨_, rfl⟩
          obtain ⟨x1, e1⟩ : ∃ x, (X.O[j]).2.1 = x := ⟨_, rfl⟩
          obtain ⟨x2, e2⟩ : ∃ x, (X.O[j]).2.2.1 = x := ⟨_, rfl⟩
          obtain ⟨x3, e3⟩ : ∃ x, (X.O[j]).2.2.2.1 = x := ⟨_, rfl⟩
          obtain ⟨x4, e4⟩ : ∃ x, (X.O[j]).2.2.2.2 = x := ⟨_, rfl⟩
          rw [e0] at cf0
          rw [e1] at cf1
          rw [e2] at cf2
          rw [e3] at cf3
          rw [e4] at cf4
          have HF : Hid (prtR X.O[j] ↔ P.PortR x0 x1 x2 x3 x4) := by
            show _ ↔ _
            unfold prtR
            rw [e0, e1, e2, e3, e4]
          clear e0 e1 e2 e3 e4
          obtain ⟨pb, hpb⟩ := P.port_bool x0 x1 x2 x3 x4
          have HPB : Hid (pb = true ↔ P.PortR x0 x1 x2 x3 x4) := hpb
          clear hpb
          go_wp2_with fail
          refine (P.portokS x0 x1 x2 x3 x4 pb HPB.out _).mono ?_
          rintro e w3 ⟨rfl, hb⟩
          have HB3 : Hid (Below w.heap.size w w3) := bel_on (Nat.le_refl _) HW.out hb
          have HP3 : Hid (w3.heap[w.heap.size]? = some (.cells #[.slice q0 n0 c0, .slice q1 n1 c1, .slice (some ⟨g, off, none⟩) n2 c2, .slice q3 n3 c3, .slice q4 n4 c4] 35)) := row_on HP.out hb
          clear hb HW HP kp cf0 cf1 cf2 cf3 cf4
          cases pb
          · have HE : Hid (f = 3) := fault3 HFX.out H1.out H2.out (fun h => by have := HPB.out.2 (HF.out.1 (h.2 j hjl)); cases this)
            clear HI
            go_wp2
            go_ret
            exact ⟨by rw [HE.out]; rfl, HB3.out⟩
          · by_cases h6 : 6 ≤ j
            · have HE : Hid (f = 3) := fault3 HFX.out H1.out H2.out (fun h => by have := h.1; omega)
              clear HI
              go_wp2
              go_ret
              exact ⟨by rw [HE.out]; rfl, HB3.out⟩
            · have HI' : Hid (∀ i (h : i < X.O.length), i < j + 1 → prtR X.O[i]) := fun i h hi => by
                rcases Nat.lt_or_ge i j with h' | h'
                · exact HI.out i h h'
                · obtain rfl : i = j := by omega
                  exact HF.out.2 (HPB.out.1 (by first | rfl | trivial))
              clear HI
              go_wp2
              go_roundg (gk - 1)
              case measure => omega
              case rel => exact ⟨j + 1, by omega, by go_num, by omega, HI', HB3, HP3⟩
        · have H3 : Hid (PortsX X) := ⟨by have := HL2.out; omega, fun i h => HI.out i h (by have := HL2.out; omega)⟩
          have HB3 := HW
          have HP3 := HP
          have kp3 := kp
          clear HI HW HP kp
          obtain ⟨b2, hb2⟩ := prop_bool (RulesR X.U)
          have HBB2 : Hid (b2 = true ↔ RulesR X.U) := hb2
          clear hb2
          go_wp2_with fail
          refine (rulesS q3 X.U n3 c3 b2 HL3.out s3 HBB2.out _ (HR3.out.keep HB3.out (Nat.le_refl _))).mono ?_
          rintro e w4 ⟨rfl, hb'⟩
          have hb : Below (wr).heap.size wr w4 := by first | exact hb' | (rw [hb']; exact Below.refl _ _)
          clear hb'
          have HB4 : Hid (Below w.heap.size w w4) := bel_on (Nat.le_refl _) HB3.out hb
          have HP4 : Hid (w4.heap[w.heap.size]? = some (.cells #[.slice q0 n0 c0, .slice q1 n1 c1, .slice q2 n2 c2, .slice q3 n3 c3, .slice q4 n4 c4] 35)) := row_on HP3.out hb
          have kp4 := boxO_cells HP4.out
          clear hb HB3 HP3 kp3
          cases b2
          · have HE : Hid (f = 4) := fault4 HFX.out H1.out H2.out H3.out (fun h => by have := HBB2.out.2 h; cases this)
            go_wp2
            go_ret
            exact ⟨by rw [HE.out]; rfl, HB4.out⟩
          · have H4 : Hid (RulesR X.U) := HBB2.out.1 (by first | rfl | trivial)
            clear HBB2
            by_cases h40 : n4 = n0
            · subst h40
              go_wp2
              clear kp4
              go_loopg [4] n4 (fun gk i wr => ∃ j : Nat, j + gk = n4 ∧ i = .int .i64 j ∧ Hid (∀ i (h : i < X.S.length), i < j → I.RcOk X.S[i]) ∧ Hid (Below w.heap.size w wr) ∧ Hid (wr.heap[w.heap.size]? = some (.cells #[.slice q0 n4 c0, .slice q1 n1 c1, .slice q2 n2 c2, .slice q3 n3 c3, .slice q4 n4 c4] 35)))
              case atStart => exact ⟨0, by omega, rfl, fun i _ h => by omega, HB4, HP4⟩
              case round =>
                clear HB4 HP4 hlt
                obtain ⟨j, hj, rfl, HI, HW, HP⟩ := hrel
                have kp := boxO_cells HP.out
                by_cases hlt : j < n4
                · have hjl : j < X.S.length := by have := HL4.out; omega
                  obtain ⟨g, off, ha, hc⟩ := HR4.out (by omega)
                  have hgl : g < w.heap.size := World.block_lt_of_cell? w ⟨g, off + j, none⟩ (hc j hjl)
                  subst ha
                  have cf0 := (HW.out.cell (p := ⟨g, off + j, none⟩) hgl).trans (hc j hjl)
                  have hsz := HSZ.out j hjl
                  clear hc
                  obtain ⟨x, hx⟩ : ∃ x, X.S[j] = x := ⟨_, rfl⟩
                  rw [hx] at cf0 hsz
                  have HF : Hid (X.S[j] = x) := hx
                  clear hx
                  obtain ⟨cb, hcb⟩ := I.rc_bool x
                  have HCB : Hid (cb = true ↔ I.RcOk x) := hcb
                  clear hcb
                  go_wp2_with fail
                  refine (I.readcodeS x hsz cb HCB.out _).mono ?_
                  rintro e w5 ⟨cv, rfl, _, hb⟩
                  have HB5 : Hid (Below w.heap.size w w5) := bel_on (Nat.le_refl _) HW.out hb
                  have HP5 : Hid (w5.heap[w.heap.size]? = some (.cells #[.slice q0 n4 c0, .slice q1 n1 c1, .slice q2 n2 c2, .slice q3 n3 c3, .slice (some ⟨g, off, none⟩) n4 c4] 35)) := row_on HP.out hb
                  clear hb HW HP kp cf0 hsz
                  cases cb
                  · have HE : Hid (f = 5) := fault5 HFX.out H1.out H2.out H3.out H4.out (fun h => by have h5 := h.2 j hjl; rw [HF.out] at h5; have := HCB.out.2 h5; cases this)
                    clear HI
                    go_wp2
                    go_ret
                    exact ⟨by rw [HE.out]; rfl, HB5.out⟩
                  · have HI' : Hid (∀ i (h : i < X.S.length), i < j + 1 → I.RcOk X.S[i]) := fun i h hi => by
                      rcases Nat.lt_or_ge i j with h' | h'
                      · exact HI.out i h h'
                      · obtain rfl : i = j := by omega
                        rw [HF.out]; exact HCB.out.1 (by first | rfl | trivial)
                    clear HI
                    go_wp2
                    go_roundg (gk - 1)
                    case measure => omega
                    case rel => exact ⟨j + 1, by omega, by go_num, HI', HB5, HP5⟩
                · have H5 : Hid (CodesX X) := ⟨by rw [HL4.out, HL0.out], fun i h => HI.out i h (by have := HL4.out; omega)⟩
                  clear HI
                  have HE : Hid ((PartsX X ∧ f = 0) ∨ (¬ PartsX X ∧ f = 6)) := fault6 HFX.out H1.out H2.out H3.out H4.out H5.out
                  go_wp2_with fail
                  refine (partsS _ X f HE.out _ (HH.out.1.keep HW.out (Nat.le_refl _)) HH.out.2).mono ?_
                  rintro e w6 ⟨rfl, hb⟩
                  have HB6 : Hid (Below w.heap.size w w6) := bel_on (Nat.le_refl _) HW.out hb
                  clear hb HW HP kp
                  go_wp2
                  go_ret
                  exact ⟨rfl, HB6.out⟩
            · have HE : Hid (f = 5) := fault5 HFX.out H1.out H2.out H3.out H4.out (fun h => h40 (by have := h.1; rw [HL4.out, HL0.out] at this; exact this))
              have h40' : ((n4 : Int) != (n0 : Int)) = true := by simp; omega
              go_wp2
              go_ret
              exact ⟨by rw [HE.out]; rfl, HB4.out⟩
end Go.Proofs.YtphijlknefgkiaaGreatDoor
