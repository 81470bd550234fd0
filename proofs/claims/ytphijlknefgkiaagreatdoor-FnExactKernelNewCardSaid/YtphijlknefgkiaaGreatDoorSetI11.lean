/-
  What is wrong with a set-up, by the program: wrongIn, SetupFault.
-/
import Derived.Test.YtphijlknefgkiaaGreatDoorSetIb
import Derived.Test.YtphijlknefgkiaaGreatDoorPartsS
namespace Go.Proofs.YtphijlknefgkiaaGreatDoor
open Go.RowKit Go.PlainAid
set_option linter.unusedVariables false

theorem gbel {w W : World} {p0 p1 p2 p3 p4 : Addr} {x y z u v : Value} (h : W.cell? p0 = some x ∧ W.cell? p1 = some y ∧ W.cell? p2 = some z ∧ W.cell? p3 = some u ∧ W.cell? p4 = some v ∧ Below w.heap.size w W) : Below w.heap.size w W := h.2.2.2.2.2
theorem gkeep {w W W' : World} {p0 p1 p2 p3 p4 : Addr} {x y z u v : Value} (hb : Below W.heap.size W W') (h : W.cell? p0 = some x ∧ W.cell? p1 = some y ∧ W.cell? p2 = some z ∧ W.cell? p3 = some u ∧ W.cell? p4 = some v ∧ Below w.heap.size w W) : W'.cell? p0 = some x ∧ W'.cell? p1 = some y ∧ W'.cell? p2 = some z ∧ W'.cell? p3 = some u ∧ W'.cell? p4 = some v ∧ Below w.heap.size w W' := by
  obtain ⟨h0, h1, h2, h3, h4, hB⟩ := h
  exact ⟨(hb.cell (World.block_lt_of_cell? W p0 h0)).trans h0, (hb.cell (World.block_lt_of_cell? W p1 h1)).trans h1, (hb.cell (World.block_lt_of_cell? W p2 h2)).trans h2, (hb.cell (World.block_lt_of_cell? W p3 h3)).trans h3, (hb.cell (World.block_lt_of_cell? W p4 h4)).trans h4, bel_on (Nat.le_refl _) hB hb⟩
/-- the error that tells a fault -/
def errV (f : Int) : Value := if f = 0 then .nilIface else .iface 108 (.agg #[.int .i64 f])
set_option maxRecDepth 100000 in
set_option maxHeartbeats 4000000 in
theorem wrongI (s : SH) (X : SX) (f : Int) (hf : FaultX X f) (w : World) (h : RdX w s X) (hs : SmX s X) (hwf : WfU X.U) (hk : s.n0 ≤ s.c0) :
    Calls Tryz.prog 66 #[SetV s] w fun e w' => e = .returned (errV f) ∧ Below w.heap.size w w' := by
  have HFX : Hid (FaultX X f) := hf
  have HH : Hid (RdX w s X ∧ SmX s X) := ⟨h, hs⟩
  have HWF : Hid (WfU X.U) := hwf
  have HSZ : Hid (∀ j (hj : j < X.S.length), (X.S[j]).size ≤ 1048576) := fun j hj => Nat.le_trans (S.size_le_bytes hj) hs.b
  obtain ⟨s0, s1, s2, s3, s4, _⟩ := hs
  clear hf hwf
  obtain ⟨q0, n0, c0, q1, n1, c1, q2, n2, c2, q3, n3, c3, q4, n4, c4⟩ := s
  obtain ⟨l0, r0, l1, r1, l2, r2, l3, r3, l4, r4⟩ := h
  dsimp only at l0 r0 l1 r1 l2 r2 l3 r3 l4 r4 s0 s1 s2 s3 s4 hk
  have HL0 : Hid (X.R.length = n0) := l0
  have HL1 : Hid (X.W.length = n1) := l1
  have HL2 : Hid (X.O.length = n2) := l2
  have HL3 : Hid (X.U.length = n3) := l3
  have HL4 : Hid (X.S.length = n4) := l4
  have HR0 : Hid (R.RdR w q0 X.R) := r0
  have HR1 : Hid (RdR w q1 X.W) := r1
  have HR2 : Hid (RdO w q2 X.O) := r2
  have HR3 : Hid (RdU w q3 X.U) := r3
  have HR4 : Hid (S.RdS w q4 X.S) := r4
  clear l0 r0 l1 r1 l2 r2 l3 r3 l4 r4
  have HB0 : Hid (Below w.heap.size w (w.alloc (.cells #[.slice q0 n0 c0, .slice q1 n1 c1, .slice q2 n2 c2, .slice q3 n3 c3, .slice q4 n4 c4] 35))) := (Below.refl _ _).alloc (Nat.le_refl _) _
  have HP0 : Hid ((w.alloc (.cells #[.slice q0 n0 c0, .slice q1 n1 c1, .slice q2 n2 c2, .slice q3 n3 c3, .slice q4 n4 c4] 35)).heap[w.heap.size]? = some (.cells #[.slice q0 n0 c0, .slice q1 n1 c1, .slice q2 n2 c2, .slice q3 n3 c3, .slice q4 n4 c4] 35)) := heap_new w _
  unfold SetV
  dsimp only
  go_enter Tryz.func66, Tryz.ntmps66
  have kp0 := boxO_cells HP0.out
  obtain ⟨b0, hb0⟩ := prop_bool (R.RegsOk X.R)
  have HBB0 : Hid (b0 = true ↔ R.RegsOk X.R) := hb0
  clear hb0
  go_wp2_with fail
  refine (R.regsI q0 X.R n0 c0 b0 HL0.out (by omega) hk HBB0.out _ (HR0.out.keep HB0.out (Nat.le_refl _))).mono ?_
  rintro e w1 ⟨rfl, hb⟩
  have HB1 : Hid (Below w.heap.size w w1) := bel_on (Nat.le_refl _) HB0.out hb
  have HP1 : Hid (w1.heap[w.heap.size]? = some (.cells #[.slice q0 n0 c0, .slice q1 n1 c1, .slice q2 n2 c2, .slice q3 n3 c3, .slice q4 n4 c4] 35)) := row_on HP0.out hb
  have kp1 := boxO_cells HP1.out
  clear hb HB0 HP0 kp0
  cases b0
  · have HE : Hid (f = 1) := fault1 HFX.out  (fun h => by have := HBB0.out.2 h; cases this)
    go_wp2
    go_ret
    exact ⟨by rw [HE.out]; rfl, HB1.out⟩
  · have H1 : Hid (R.RegsOk X.R) := HBB0.out.1 (by first | rfl | trivial)
    clear HBB0
    obtain ⟨b1, hb1⟩ := prop_bool (PlanR X.W)
    have HBB1 : Hid (b1 = true ↔ PlanR X.W) := hb1
    clear hb1
    go_wp2_with fail
    refine (planI q1 X.W n1 c1 b1 HL1.out (by omega) HBB1.out _ (HR1.out.keep HB1.out (Nat.le_refl _))).mono ?_
    rintro e w2 ⟨rfl, hb⟩
    have HB2 : Hid (Below w.heap.size w w2) := bel_on (Nat.le_refl _) HB1.out hb
    have HP2 : Hid (w2.heap[w.heap.size]? = some (.cells #[.slice q0 n0 c0, .slice q1 n1 c1, .slice q2 n2 c2, .slice q3 n3 c3, .slice q4 n4 c4] 35)) := row_on HP1.out hb
    have kp2 := boxO_cells HP2.out
    clear hb HB1 HP1 kp1
    cases b1
    · have HE : Hid (f = 2) := fault2 HFX.out H1.out (fun h => by have := HBB1.out.2 h; cases this)
      go_wp2
      go_ret
      exact ⟨by rw [HE.out]; rfl, HB2.out⟩
    · have H2 : Hid (PlanR X.W) := HBB1.out.1 (by first | rfl | trivial)
      clear HBB1
      obtain ⟨b2, hb2⟩ := prop_bool (PortsX X)
      have HBB2 : Hid (b2 = true ↔ PortsX X) := hb2
      clear hb2
      go_wp2_with fail
      refine (portsI q2 X n2 c2 b2 HL2.out (by omega) HBB2.out _ (HR2.out.keep HB2.out (Nat.le_refl _))).mono ?_
      rintro e w3 ⟨rfl, hb⟩
      have HB3 : Hid (Below w.heap.size w w3) := bel_on (Nat.le_refl _) HB2.out hb
      have HP3 : Hid (w3.heap[w.heap.size]? = some (.cells #[.slice q0 n0 c0, .slice q1 n1 c1, .slice q2 n2 c2, .slice q3 n3 c3, .slice q4 n4 c4] 35)) := row_on HP2.out hb
      have kp3 := boxO_cells HP3.out
      clear hb HB2 HP2 kp2
      cases b2
      · have HE : Hid (f = 3) := fault3 HFX.out H1.out H2.out (fun h => by have := HBB2.out.2 h; cases this)
        go_wp2
        go_ret
        exact ⟨by rw [HE.out]; rfl, HB3.out⟩
      · have H3 : Hid (PortsX X) := HBB2.out.1 (by first | rfl | trivial)
        clear HBB2
        obtain ⟨b3, hb3⟩ := prop_bool (RulesR X.U)
        have HBB3 : Hid (b3 = true ↔ RulesR X.U) := hb3
        clear hb3
        go_wp2_with fail
        refine (rulesI q3 X.U n3 c3 b3 HL3.out s3 HWF.out HBB3.out _ (HR3.out.keep HB3.out (Nat.le_refl _))).mono ?_
        rintro e w4 ⟨rfl, hb⟩
        have HB4 : Hid (Below w.heap.size w w4) := bel_on (Nat.le_refl _) HB3.out hb
        have HP4 : Hid (w4.heap[w.heap.size]? = some (.cells #[.slice q0 n0 c0, .slice q1 n1 c1, .slice q2 n2 c2, .slice q3 n3 c3, .slice q4 n4 c4] 35)) := row_on HP3.out hb
        have kp4 := boxO_cells HP4.out
        clear hb HB3 HP3 kp3
        cases b3
        · have HE : Hid (f = 4) := fault4 HFX.out H1.out H2.out H3.out (fun h => by have := HBB3.out.2 h; cases this)
          go_wp2
          go_ret
          exact ⟨by rw [HE.out]; rfl, HB4.out⟩
        · have H4 : Hid (RulesR X.U) := HBB3.out.1 (by first | rfl | trivial)
          clear HBB3
          by_cases h40 : n4 = n0
          · subst h40
            have hne : ((n4 : Int) != (n4 : Int)) = false := by simp
            obtain ⟨b4, hb4⟩ := prop_bool (∀ i (h : i < X.S.length), I.RcOk X.S[i])
            have HBB4 : Hid (b4 = true ↔ ∀ i (h : i < X.S.length), I.RcOk X.S[i]) := hb4
            clear hb4
            go_wp2_with fail
            refine (codesI q4 X.S n4 c4 b4 HL4.out (by omega) HSZ.out HBB4.out _ (HR4.out.keep HB4.out (Nat.le_refl _))).mono ?_
            rintro e w5 ⟨rfl, hb⟩
            have HB5 : Hid (Below w.heap.size w w5) := bel_on (Nat.le_refl _) HB4.out hb
            have HP5 : Hid (w5.heap[w.heap.size]? = some (.cells #[.slice q0 n4 c0, .slice q1 n1 c1, .slice q2 n2 c2, .slice q3 n3 c3, .slice q4 n4 c4] 35)) := row_on HP4.out hb
            have kp5 := boxO_cells HP5.out
            clear hb HB4 HP4 kp4
            cases b4
            · have HE : Hid (f = 5) := fault5 HFX.out H1.out H2.out H3.out H4.out (fun h => by have := HBB4.out.2 h.2; cases this)
              go_wp2
              go_ret
              exact ⟨by rw [HE.out]; rfl, HB5.out⟩
            · have H5 : Hid (CodesX X) := ⟨by rw [HL4.out, HL0.out], HBB4.out.1 (by first | rfl | trivial)⟩
              clear HBB4
              have HS5 : Hid (w5.cell? ⟨w.heap.size, 0, none⟩ = some (.slice q0 n4 c0) ∧ Below w.heap.size w w5) := ⟨kp5.1.1, HB5.out⟩
              have HBX := HB5
              go_wp2
              obtain ⟨⟨k00, k10, k20, k30, k40⟩, _⟩ := kp5
              clear HP5 HB5
              go_region_held3 (fun w' => w'.cell? ⟨w.heap.size, 0, none⟩ = some (.slice q0 n4 c0) ∧ w'.cell? ⟨w.heap.size, 1, none⟩ = some (.slice q1 n1 c1) ∧ w'.cell? ⟨w.heap.size, 2, none⟩ = some (.slice q2 n2 c2) ∧ w'.cell? ⟨w.heap.size, 3, none⟩ = some (.slice q3 n3 c3) ∧ w'.cell? ⟨w.heap.size, 4, none⟩ = some (.slice q4 n4 c4) ∧ Below w.heap.size w w')
                (first | (refine gkeep (by assumption) ?_; assumption) | (exact ⟨k00, k10, k20, k30, k40, HBX.out.drew⟩))
                (first | (go_at_call 97; refine (greatI ⟨q0, n4, c0, q1, n1, c1, q2, n2, c2, q3, n3, c3, q4, n4, c4⟩ X _ (HH.out.1.keep (gbel (by assumption)) (Nat.le_refl _)) HH.out.2).mono ?_; rintro e w6 ⟨G, rfl, hG, hb6⟩))
              rename_i HHH
              have HB6 : Hid (Below w.heap.size w w6) := HHH.2.2.2.2.2
              have HG : Hid (PartsX X ↔ G ≤ (X.R.length : Int)) := hG
              clear hG hb6 HHH
              have hl0 := HL0.out
              rcases fault6 HFX.out H1.out H2.out H3.out H4.out H5.out with ⟨hp, hf0⟩ | ⟨hp, hf6⟩
              · have hle : ¬ (n4 : Int) < G := by have := HG.out.1 hp; omega
                have HE : Hid (f = 0) := hf0
                clear hp hf0
                go_wp2
                go_ret
                exact ⟨by rw [HE.out]; rfl, HB6.out⟩
              · have hle : (n4 : Int) < G := by
                  have h9 : ¬ G ≤ (X.R.length : Int) := fun h => hp (HG.out.2 h)
                  omega
                have HE : Hid (f = 6) := hf6
                clear hp hf6
                go_wp2
                go_ret
                exact ⟨by rw [HE.out]; rfl, HB6.out⟩
          · have HE : Hid (f = 5) := fault5 HFX.out H1.out H2.out H3.out H4.out (fun h => by have h1 := h.1; rw [HL0.out, HL4.out] at h1; exact h40 h1)
            have hne : ((n4 : Int) != (n0 : Int)) = true := by simp; omega
            go_wp2
            go_ret
            exact ⟨by rw [HE.out]; rfl, HB4.out⟩

theorem cell_of1 {w : World} {k : Nat} {x : Value} {T : TypeId} (h : w.heap[k]? = some (.cells #[x] T)) : w.cell? ⟨k, 0, none⟩ = some x ∧ w.frozen? ⟨k, 0, none⟩ = false := by
  constructor
  · simp [World.cell?, h]
  · simp [World.frozen?, h]
theorem asW_cell {w : World} {t : Addr} {c : Int} {old : Value} (h : w.cell? t = some old) : (asW w t c).cell? t = some (.int .i64 c) := by
  have hl := World.block_lt_of_cell? w _ h
  unfold asW
  refine World.cell?_setCell_same _ _ _ (?_ : _ = some old)
  rw [World.cell?_alloc_lt _ _ t (by simp; omega), World.cell?_alloc_lt _ _ t (by simp; omega), World.cell?_alloc_lt _ _ t (by simp; omega), World.cell?_alloc_lt _ _ t hl]
  exact h
set_option maxRecDepth 100000 in
set_option maxHeartbeats 2000000 in
theorem faultI (s : SH) (X : SX) (f : Int) (hf : FaultX X f) (w : World) (h : RdX w s X) (hs : SmX s X) (hwf : WfU X.U) (hk : s.n0 ≤ s.c0) (hg : Hnd w) :
    Calls Tryz.prog 26 #[SetV s] w fun e w' => e = .returned (.int .i64 f) ∧ Below w.heap.size w w' := by
  have HH : Hid (FaultX X f ∧ RdX w s X ∧ SmX s X ∧ WfU X.U ∧ s.n0 ≤ s.c0) := ⟨hf, h, hs, hwf, hk⟩
  have HG : Hid (Hnd w) := hg
  clear hf h hs hwf hk hg
  obtain ⟨q0, n0, c0, q1, n1, c1, q2, n2, c2, q3, n3, c3, q4, n4, c4⟩ := s
  have HB0 : Hid (Below w.heap.size w ((w.alloc (.cells #[.slice q0 n0 c0, .slice q1 n1 c1, .slice q2 n2 c2, .slice q3 n3 c3, .slice q4 n4 c4] 35)).alloc (.cells #[.int .i64 0] 108))) := ((Below.refl _ _).alloc (Nat.le_refl _) _).alloc (by simp) _
  have HP0 : Hid (((w.alloc (.cells #[.slice q0 n0 c0, .slice q1 n1 c1, .slice q2 n2 c2, .slice q3 n3 c3, .slice q4 n4 c4] 35)).alloc (.cells #[.int .i64 0] 108)).heap[w.heap.size]? = some (.cells #[.slice q0 n0 c0, .slice q1 n1 c1, .slice q2 n2 c2, .slice q3 n3 c3, .slice q4 n4 c4] 35)) := row_on (heap_new w _) ((Below.refl _ _).alloc (Nat.le_refl _) _)
  have HE0 : Hid (((w.alloc (.cells #[.slice q0 n0 c0, .slice q1 n1 c1, .slice q2 n2 c2, .slice q3 n3 c3, .slice q4 n4 c4] 35)).alloc (.cells #[.int .i64 0] 108)).heap[w.heap.size + 1]? = some (.cells #[.int .i64 0] 108)) := by
    have h1 := heap_new (w.alloc (.cells #[.slice q0 n0 c0, .slice q1 n1 c1, .slice q2 n2 c2, .slice q3 n3 c3, .slice q4 n4 c4] 35)) (.cells #[.int .i64 0] 108)
    have e1 : (w.alloc (.cells #[.slice q0 n0 c0, .slice q1 n1 c1, .slice q2 n2 c2, .slice q3 n3 c3, .slice q4 n4 c4] 35)).heap.size = w.heap.size + 1 := by simp
    rw [e1] at h1
    exact h1
  unfold SetV
  dsimp only
  go_enter Tryz.func26, Tryz.ntmps26
  have kp0 := boxO_cells HP0.out
  go_wp2_with fail
  refine (wrongI ⟨q0, n0, c0, q1, n1, c1, q2, n2, c2, q3, n3, c3, q4, n4, c4⟩ X f HH.out.1 _ (HH.out.2.1.keep HB0.out (Nat.le_refl _)) HH.out.2.2.1 HH.out.2.2.2.1 HH.out.2.2.2.2).mono ?_
  rintro e w1 ⟨rfl, hb⟩
  have HB1 : Hid (Below w.heap.size w w1) := bel_on (Nat.le_refl _) HB0.out hb
  have HE1 : Hid (w1.heap[w.heap.size + 1]? = some (.cells #[.int .i64 0] 108)) := row_on HE0.out hb
  clear hb HB0 HP0 HE0 kp0
  by_cases hf0 : f = 0
  · subst hf0
    have he : errV 0 = .nilIface := rfl
    rw [he]
    go_wp2_with fail
    refine (as_nil _ _).mono ?_
    rintro e w2 ⟨rfl, rfl⟩
    go_wp2
    go_ret
    exact ⟨rfl, HB1.out⟩
  · have he : errV f = .iface 108 (.agg #[.int .i64 f]) := if_neg hf0
    rw [he]
    have hsz : w.heap.size + 1 < w1.heap.size := row_lt HE1.out
    have HB2 : Hid (Below w.heap.size w (asW w1 ⟨w.heap.size + 1, 0, none⟩ f)) := HB1.out.trans (asW_below HB1.out.size (by simp))
    have hc0 : w1.cell? ⟨w.heap.size + 1, 0, none⟩ = some (.int .i64 0) ∧ w1.frozen? ⟨w.heap.size + 1, 0, none⟩ = false := cell_of1 HE1.out
    have hc1 : (asW w1 ⟨w.heap.size + 1, 0, none⟩ f).cell? ⟨w.heap.size + 1, 0, none⟩ = some (.int .i64 f) := asW_cell hc0.1
    have HC : Hid (_ ∧ _) := hc0
    clear hc0 HE1 he
    go_wp2_with fail
    refine (as_hit f ⟨w.heap.size + 1, 0, none⟩ (.int .i64 0) _ (HG.out.on HB1.out) HC.out.1 HC.out.2).mono ?_
    rintro e w2 ⟨rfl, hw2⟩
    rw [← hw2] at hc1 HB2
    clear hw2 hsz HC
    go_wp2
    go_ret
    exact ⟨rfl, HB2.out⟩
end Go.Proofs.YtphijlknefgkiaaGreatDoor
