/-
  Whether each part that is told has a region: the specification.
-/
import Derived.Test.YtphijlknefgkiaaGreatDoorFaultM
namespace Go.Proofs.YtphijlknefgkiaaGreatDoor
open Go.RowKit Go.PlainAid
set_option linter.unusedVariables false

theorem RdX.keep {w w' : World} {s : SH} {X : SX} {B : Nat} (h : RdX w s X) (hb : Below B w w') (hB : w.heap.size ≤ B) : RdX w' s X :=
  ⟨h.l0, h.r0.keep hb hB, h.l1, h.r1.keep hb hB, h.l2, h.r2.keep hb hB, h.l3, h.r3.keep hb hB, h.l4, h.r4.keep hb hB⟩
set_option maxRecDepth 100000 in
set_option maxHeartbeats 4000000 in
theorem partsS (s : SH) (X : SX) (r : Int) (hb : (PartsX X ∧ r = 0) ∨ (¬ PartsX X ∧ r = 6)) (w : World) (h : RdX w s X) (hs : SmX s X) :
    Calls Tryz.prog 60 #[SetV s] w fun e w' => e = .returned (.int .i64 r) ∧ Below w.heap.size w w' := by
  have HPX : Hid ((PartsX X ∧ r = 0) ∨ (¬ PartsX X ∧ r = 6)) := hb
  obtain ⟨s0, s1, s2, s3, s4, _⟩ := hs
  clear hb
  obtain ⟨q0, n0, c0, q1, n1, c1, q2, n2, c2, q3, n3, c3, q4, n4, c4⟩ := s
  obtain ⟨l0, r0, l1, r1, l2, r2, l3, r3, l4, r4⟩ := h
  dsimp only at l0 r0 l1 r1 l2 r2 l3 r3 l4 r4 s0 s1 s2 s3 s4
  have HL0 : Hid (_ = n0) := l0
  have HL1 : Hid (_ = n1) := l1
  have HL2 : Hid (_ = n2) := l2
  have HL3 : Hid (_ = n3) := l3
  have HL4 : Hid (_ = n4) := l4
  have HR0 : Hid (R.RdR w q0 _) := r0
  have HR1 : Hid (RdR w q1 _) := r1
  have HR2 : Hid (RdO w q2 _) := r2
  have HR3 : Hid (RdU w q3 _) := r3
  have HR4 : Hid (S.RdS w q4 _) := r4
  clear l0 r0 l1 r1 l2 r2 l3 r3 l4 r4
  have HB0 : Hid (Below w.heap.size w (w.alloc (.cells #[.slice q0 n0 c0, .slice q1 n1 c1, .slice q2 n2 c2, .slice q3 n3 c3, .slice q4 n4 c4] 35))) := (Below.refl _ _).alloc (Nat.le_refl _) _
  have HP0 : Hid ((w.alloc (.cells #[.slice q0 n0 c0, .slice q1 n1 c1, .slice q2 n2 c2, .slice q3 n3 c3, .slice q4 n4 c4] 35)).heap[w.heap.size]? = some (.cells #[.slice q0 n0 c0, .slice q1 n1 c1, .slice q2 n2 c2, .slice q3 n3 c3, .slice q4 n4 c4] 35)) := heap_new w _
  unfold SetV
  dsimp only
  go_enter Tryz.func60, Tryz.ntmps60
  go_wp2
  go_loopg [4] n1 (fun gk i wr => ∃ j : Nat, j + gk = n1 ∧ i = .int .i64 j ∧ Hid (∀ i (h : i < X.W.length), i < j → (X.W[i]).1 ≤ (n0 : Int)) ∧ Hid (Below w.heap.size w wr) ∧ Hid (wr.heap[w.heap.size]? = some (.cells #[.slice q0 n0 c0, .slice q1 n1 c1, .slice q2 n2 c2, .slice q3 n3 c3, .slice q4 n4 c4] 35)))
  case atStart => exact ⟨0, by omega, rfl, fun i _ h => by omega, HB0, HP0⟩
  case round =>
    clear HB0 HP0
    obtain ⟨j, hj, rfl, HI, HW, HP⟩ := hrel
    have kp := boxO_cells HP.out
    by_cases hlt : j < n1
    · have hjl : j < X.W.length := by have := HL1.out; omega
      obtain ⟨g, off, ha, hc⟩ := HR1.out (by omega)
      have hgl : g < w.heap.size := World.block_lt_of_cell? w ⟨g, off + j * 2, none⟩ (hc j hjl).1
      subst ha
      have c1 := (HW.out.cell (p := ⟨g, off + j * 2, none⟩) hgl).trans (hc j hjl).1
      clear hc
      obtain ⟨x, hx⟩ : ∃ x, (X.W[j]).1 = x := ⟨_, rfl⟩
      rw [hx] at c1
      have HF : Hid ((X.W[j]).1 = x) := hx
      clear hx
      by_cases hle : (n0 : Int) < x
      · have HE : Hid (r = 6) := by
          rcases HPX.out with h6 | h6
          · have h5 := h6.1.1 j hjl
            rw [HF.out, HL0.out] at h5
            omega
          · exact h6.2
        clear HI
        go_wp2
        go_ret
        exact ⟨by rw [HE.out]; rfl, HW.out⟩
      · have HI' : Hid (∀ i (h : i < X.W.length), i < j + 1 → (X.W[i]).1 ≤ (n0 : Int)) := fun i h hi => by
          rcases Nat.lt_or_ge i j with h' | h'
          · exact HI.out i h h'
          · obtain rfl : i = j := by omega
            rw [HF.out]; omega
        clear HI
        go_wp2
        clear kp
        go_roundg (gk - 1)
        case measure => omega
        case rel => exact ⟨j + 1, by omega, by go_num, HI', HW, HP⟩
    · have HA : Hid (∀ i (h : i < X.W.length), (X.W[i]).1 ≤ (n0 : Int)) := fun i h => HI.out i h (by have := HL1.out; omega)
      clear HI
      go_wp2
      clear kp
      go_loopg [5] n2 (fun gk i wr => ∃ j : Nat, j + gk = n2 ∧ i = .int .i64 j ∧ Hid (∀ i (h : i < X.O.length), i < j → (X.O[i]).2.1 ≤ (n0 : Int) ∧ (X.O[i]).2.2.1 ≤ (n0 : Int)) ∧ Hid (Below w.heap.size w wr) ∧ Hid (wr.heap[w.heap.size]? = some (.cells #[.slice q0 n0 c0, .slice q1 n1 c1, .slice q2 n2 c2, .slice q3 n3 c3, .slice q4 n4 c4] 35)))
      case atStart => exact ⟨0, by omega, rfl, fun i _ h => by omega, HW, HP⟩
      case round =>
        clear HW HP hlt
        obtain ⟨j, hj, rfl, HI, HW, HP⟩ := hrel
        have kp := boxO_cells HP.out
        by_cases hlt : j < n2
        · have hjl : j < X.O.length := by have := HL2.out; omega
          obtain ⟨g, off, ha, hc⟩ := HR2.out (by omega)
          have hgl : g < w.heap.size := World.block_lt_of_cell? w ⟨g, off + j * 5, none⟩ (hc j hjl).1
          subst ha
          have c1 := (HW.out.cell (p := ⟨g, off + j * 5 + 1, none⟩) hgl).trans (hc j hjl).2.1
          have c2 := (HW.out.cell (p := ⟨g, off + j * 5 + 2, none⟩) hgl).trans (hc j hjl).2.2.1
          clear hc
          obtain ⟨x, hx⟩ : ∃ x, (X.O[j]).2.1 = x := ⟨_, rfl⟩
          obtain ⟨y, hy⟩ : ∃ x, (X.O[j]).2.2.1 = x := ⟨_, rfl⟩
          rw [hx] at c1
          rw [hy] at c2
          have HF : Hid ((X.O[j]).2.1 = x ∧ (X.O[j]).2.2.1 = y) := ⟨hx, hy⟩
          clear hx hy
          by_cases hle : (n0 : Int) < x
          · have HE : Hid (r = 6) := by
              rcases HPX.out with h6 | h6
              · have h5 := (h6.1.2.1 j hjl).1
                rw [HF.out.1, HL0.out] at h5
                omega
              · exact h6.2
            clear HI
            go_wp2
            go_ret
            exact ⟨by rw [HE.out]; rfl, HW.out⟩
          · by_cases hle2 : (n0 : Int) < y
            · have HE : Hid (r = 6) := by
                rcases HPX.out with h6 | h6
                · have h5 := (h6.1.2.1 j hjl).2
                  rw [HF.out.2, HL0.out] at h5
                  omega
                · exact h6.2
              clear HI
              go_wp2
              go_ret
              exact ⟨by rw [HE.out]; rfl, HW.out⟩
            · have HI' : Hid (∀ i (h : i < X.O.length), i < j + 1 → (X.O[i]).2.1 ≤ (n0 : Int) ∧ (X.O[i]).2.2.1 ≤ (n0 : Int)) := fun i h hi => by
                rcases Nat.lt_or_ge i j with h' | h'
                · exact HI.out i h h'
                · obtain rfl : i = j := by omega
                  rw [HF.out.1, HF.out.2]; exact ⟨by omega, by omega⟩
              clear HI
              go_wp2
              clear kp
              go_roundg (gk - 1)
              case measure => omega
              case rel => exact ⟨j + 1, by omega, by go_num, HI', HW, HP⟩
        · have HA2 : Hid (∀ i (h : i < X.O.length), (X.O[i]).2.1 ≤ (n0 : Int) ∧ (X.O[i]).2.2.1 ≤ (n0 : Int)) := fun i h => HI.out i h (by have := HL2.out; omega)
          clear HI
          go_wp2
          clear kp
          go_loopg [6] n3 (fun gk i wr => ∃ j : Nat, j + gk = n3 ∧ i = .int .i64 j ∧ Hid (∀ i (h : i < X.U.length), i < j → (X.U[i]).1 ≤ (n0 : Int)) ∧ Hid (Below w.heap.size w wr) ∧ Hid (wr.heap[w.heap.size]? = some (.cells #[.slice q0 n0 c0, .slice q1 n1 c1, .slice q2 n2 c2, .slice q3 n3 c3, .slice q4 n4 c4] 35)))
          case atStart => exact ⟨0, by omega, rfl, fun i _ h => by omega, HW, HP⟩
          case round =>
            clear HW HP hlt
            obtain ⟨j, hj, rfl, HI, HW, HP⟩ := hrel
            have kp := boxO_cells HP.out
            by_cases hlt : j < n3
            · have hjl : j < X.U.length := by have := HL3.out; omega
              obtain ⟨g, off, ha, hc⟩ := HR3.out (by omega)
              have hgl : g < w.heap.size := World.block_lt_of_cell? w ⟨g, off + j * 3, none⟩ (hc j hjl).1
              subst ha
              have c1 := (HW.out.cell (p := ⟨g, off + j * 3, none⟩) hgl).trans (hc j hjl).1
              clear hc
              obtain ⟨x, hx⟩ : ∃ x, (X.U[j]).1 = x := ⟨_, rfl⟩
              rw [hx] at c1
              have HF : Hid ((X.U[j]).1 = x) := hx
              clear hx
              by_cases hle : (n0 : Int) < x
              · have HE : Hid (r = 6) := by
                  rcases HPX.out with h6 | h6
                  · have h5 := h6.1.2.2 j hjl
                    rw [HF.out, HL0.out] at h5
                    omega
                  · exact h6.2
                clear HI
                go_wp2
                go_ret
                exact ⟨by rw [HE.out]; rfl, HW.out⟩
              · have HI' : Hid (∀ i (h : i < X.U.length), i < j + 1 → (X.U[i]).1 ≤ (n0 : Int)) := fun i h hi => by
                  rcases Nat.lt_or_ge i j with h' | h'
                  · exact HI.out i h h'
                  · obtain rfl : i = j := by omega
                    rw [HF.out]; omega
                clear HI
                go_wp2
                clear kp
                go_roundg (gk - 1)
                case measure => omega
                case rel => exact ⟨j + 1, by omega, by go_num, HI', HW, HP⟩
            · have HE : Hid (r = 0) := by
                rcases HPX.out with h6 | h6
                · exact h6.2
                · exact absurd ⟨fun i h => by rw [HL0.out]; exact HA.out i h, fun i h => by rw [HL0.out]; exact HA2.out i h, fun i h => by rw [HL0.out]; exact HI.out i h (by have := HL3.out; omega)⟩ h6.1
              clear HI
              go_wp2
              go_ret
              exact ⟨by rw [HE.out]; rfl, HW.out⟩
end Go.Proofs.YtphijlknefgkiaaGreatDoor
