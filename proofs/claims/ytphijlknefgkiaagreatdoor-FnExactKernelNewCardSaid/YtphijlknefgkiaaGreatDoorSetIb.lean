/-
  The greatest part that a set-up tells, by the program; what is wrong with a set-up: wrongIn, SetupFault.
-/
import Derived.Test.YtphijlknefgkiaaGreatDoorSetIa
import Derived.Test.YtphijlknefgkiaaGreatDoorAsX
namespace Go.Proofs.YtphijlknefgkiaaGreatDoor
open Go.RowKit Go.PlainAid
set_option linter.unusedVariables false

theorem max_le' (x y k : Int) : (if x < y then y else x) ≤ k ↔ x ≤ k ∧ y ≤ k := by
  by_cases h : x < y
  · rw [if_pos h]; omega
  · rw [if_neg h]; omega
set_option maxRecDepth 100000 in
set_option maxHeartbeats 4000000 in
theorem greatI (s : SH) (X : SX) (w : World) (h : RdX w s X) (hs : SmX s X) :
    Calls Tryz.prog 97 #[SetV s] w fun e w' => ∃ G : Int, e = .returned (.int .i64 G) ∧ (PartsX X ↔ G ≤ (X.R.length : Int)) ∧ Below w.heap.size w w' := by
  obtain ⟨q0, n0, c0, q1, n1, c1, q2, n2, c2, q3, n3, c3, q4, n4, c4⟩ := s
  obtain ⟨l0, r0, l1, r1, l2, r2, l3, r3, l4, r4⟩ := h
  obtain ⟨s0, s1, s2, s3, s4, _⟩ := hs
  dsimp only at l0 r0 l1 r1 l2 r2 l3 r3 l4 r4 s0 s1 s2 s3 s4
  have HL1 : Hid (X.W.length = n1) := l1
  have HL2 : Hid (X.O.length = n2) := l2
  have HL3 : Hid (X.U.length = n3) := l3
  have HR1 : Hid (RdR w q1 X.W) := r1
  have HR2 : Hid (RdO w q2 X.O) := r2
  have HR3 : Hid (RdU w q3 X.U) := r3
  clear l0 r0 l1 r1 l2 r2 l3 r3 l4 r4
  have HB : Hid (Below w.heap.size w (w.alloc (.cells #[.slice q0 n0 c0, .slice q1 n1 c1, .slice q2 n2 c2, .slice q3 n3 c3, .slice q4 n4 c4] 35))) := (Below.refl _ _).alloc (Nat.le_refl _) _
  have HP : Hid ((w.alloc (.cells #[.slice q0 n0 c0, .slice q1 n1 c1, .slice q2 n2 c2, .slice q3 n3 c3, .slice q4 n4 c4] 35)).heap[w.heap.size]? = some (.cells #[.slice q0 n0 c0, .slice q1 n1 c1, .slice q2 n2 c2, .slice q3 n3 c3, .slice q4 n4 c4] 35)) := heap_new w _
  unfold SetV
  dsimp only
  go_enter Tryz.func97, Tryz.ntmps97
  have kp := boxO_cells HP.out
  go_wp2
  clear kp
  go_loopg [3, 13] n1 (fun gk v i wr => ∃ (j : Nat) (G : Int), j + gk = n1 ∧ v = .int .i64 G ∧ i = .int .i64 j ∧ Hid (∀ k : Int, G ≤ k ↔ 0 ≤ k ∧ (∀ i (h : i < X.W.length), i < j → (X.W[i]).1 ≤ k)) ∧ Hid (Below w.heap.size w wr) ∧ Hid (wr.heap[w.heap.size]? = some (.cells #[.slice q0 n0 c0, .slice q1 n1 c1, .slice q2 n2 c2, .slice q3 n3 c3, .slice q4 n4 c4] 35)))
  case atStart => exact ⟨0, (0 : Int), by omega, rfl, rfl, fun k => ⟨fun h => ⟨h, fun i _ hi => by omega⟩, fun h => h.1⟩, HB, HP⟩
  case round =>
    clear HB HP
    try clear HG
    try clear hlt
    obtain ⟨j, G0, hj, rfl, rfl, HG, HB, HP⟩ := hrel
    have kp := boxO_cells HP.out
    by_cases hlt : j < n1
    · have hjl : j < X.W.length := by have := HL1.out; omega
      obtain ⟨g, off, ha, hc⟩ := HR1.out (by omega)
      have hgl : g < w.heap.size := World.block_lt_of_cell? w ⟨g, off + j * 2, none⟩ (hc j hjl).1
      subst ha
      have cc := hc j hjl
      have cf0 := (HB.out.cell (p := ⟨g, off + j * 2, none⟩) hgl).trans cc.1
      obtain ⟨x0, e0⟩ : ∃ x, (X.W[j]).1 = x := ⟨_, rfl⟩
      rw [e0] at cf0
      have cf1 := (HB.out.cell (p := ⟨g, off + j * 2 + 1, none⟩) hgl).trans cc.2
      obtain ⟨x1, e1⟩ : ∃ x, (X.W[j]).2 = x := ⟨_, rfl⟩
      rw [e1] at cf1
      have HG' : Hid (∀ k : Int, (if G0 < x0 then x0 else G0) ≤ k ↔ 0 ≤ k ∧ (∀ i (h : i < X.W.length), i < j + 1 → (X.W[i]).1 ≤ k)) := fun k => by
        have h0 := HG.out k
        rw [max_le', h0]
        constructor
        · intro hh
          refine ⟨hh.1.1, fun i h hi => ?_⟩
          rcases Nat.lt_or_ge i j with h' | h'
          · exact hh.1.2 i h h'
          · obtain rfl : i = j := by omega
            rw [e0]
            exact hh.2
        · intro hh
          have hj' := hh.2 j hjl (by omega)
          rw [e0] at hj'
          exact ⟨⟨hh.1, fun i h hi => hh.2 i h (by omega)⟩, hj'⟩
      have HBX : Hid (Below w.heap.size w (wr.alloc (.cells #[.int .i64 x0, .int .i64 x1] 98))) := HB.out.alloc HB.out.size _
      have HPX : Hid ((wr.alloc (.cells #[.int .i64 x0, .int .i64 x1] 98)).heap[w.heap.size]? = some (.cells #[.slice q0 n0 c0, .slice (some ⟨g, off, none⟩) n1 c1, .slice q2 n2 c2, .slice q3 n3 c3, .slice q4 n4 c4] 35)) := row_on HP.out ((Below.refl _ _).alloc (Nat.le_refl _) _)
      clear hc cc HG HB HP e0 e1 kp
      obtain ⟨m, hm⟩ : ∃ m, (if G0 < x0 then x0 else G0) = m := ⟨_, rfl⟩
      rw [hm] at HG'
      have HM : Hid ((if G0 < x0 then x0 else G0) = m) := hm
      clear hm
      by_cases hgx : G0 < x0
      · obtain rfl : x0 = m := by have := HM.out; rw [if_pos hgx] at this; exact this
        clear HM
        go_wp2
        go_roundg (gk - 1)
        case measure => omega
        case rel => exact ⟨j + 1, _, by omega, rfl, by go_num, HG', HBX, HPX⟩
      · obtain rfl : G0 = m := by have := HM.out; rw [if_neg hgx] at this; exact this
        clear HM
        go_wp2
        go_roundg (gk - 1)
        case measure => omega
        case rel => exact ⟨j + 1, _, by omega, rfl, by go_num, HG', HBX, HPX⟩
    · have HG2 : Hid (∀ k : Int, G0 ≤ k ↔ 0 ≤ k ∧ (∀ i (h : i < X.W.length), (X.W[i]).1 ≤ k)) := fun k => by
        have h0 := HG.out k
        have hl := HL1.out
        rw [h0]
        constructor
        · intro hh
          exact ⟨hh.1, fun i h => hh.2 i h (by omega)⟩
        · intro hh
          exact ⟨hh.1, fun i h hi => hh.2 i h⟩
      clear HG
      have HG := HG2
      clear HG2
      go_wp2
      try clear kp
      go_loopg [3, 25] n2 (fun gk v i wr => ∃ (j : Nat) (G : Int), j + gk = n2 ∧ v = .int .i64 G ∧ i = .int .i64 j ∧ Hid (∀ k : Int, G ≤ k ↔ 0 ≤ k ∧ (∀ i (h : i < X.W.length), (X.W[i]).1 ≤ k) ∧ (∀ i (h : i < X.O.length), i < j → (X.O[i]).2.1 ≤ k ∧ (X.O[i]).2.2.1 ≤ k)) ∧ Hid (Below w.heap.size w wr) ∧ Hid (wr.heap[w.heap.size]? = some (.cells #[.slice q0 n0 c0, .slice q1 n1 c1, .slice q2 n2 c2, .slice q3 n3 c3, .slice q4 n4 c4] 35)))
      case atStart => exact ⟨0, G0, by omega, rfl, rfl, fun k => ⟨fun h => by have h2 := (HG.out k).1 h; exact ⟨h2.1, h2.2, fun i _ hi => by omega⟩, fun h => (HG.out k).2 ⟨h.1, h.2.1⟩⟩, HB, HP⟩
      case round =>
        clear HB HP
        try clear HG
        try clear hlt
        obtain ⟨j, G1, hj, rfl, rfl, HG, HB, HP⟩ := hrel
        have kp := boxO_cells HP.out
        by_cases hlt : j < n2
        · have hjl : j < X.O.length := by have := HL2.out; omega
          obtain ⟨g, off, ha, hc⟩ := HR2.out (by omega)
          have hgl : g < w.heap.size := World.block_lt_of_cell? w ⟨g, off + j * 5, none⟩ (hc j hjl).1
          subst ha
          have cc := hc j hjl
          have cf0 := (HB.out.cell (p := ⟨g, off + j * 5, none⟩) hgl).trans cc.1
          obtain ⟨x0, e0⟩ : ∃ x, (X.O[j]).1 = x := ⟨_, rfl⟩
          rw [e0] at cf0
          have cf1 := (HB.out.cell (p := ⟨g, off + j * 5 + 1, none⟩) hgl).trans cc.2.1
          obtain ⟨x1, e1⟩ : ∃ x, (X.O[j]).2.1 = x := ⟨_, rfl⟩
          rw [e1] at cf1
          have cf2 := (HB.out.cell (p := ⟨g, off + j * 5 + 2, none⟩) hgl).trans cc.2.2.1
          obtain ⟨x2, e2⟩ : ∃ x, (X.O[j]).2.2.1 = x := ⟨_, rfl⟩
          rw [e2] at cf2
          have cf3 := (HB.out.cell (p := ⟨g, off + j * 5 + 3, none⟩) hgl).trans cc.2.2.2.1
          obtain ⟨x3, e3⟩ : ∃ x, (X.O[j]).2.2.2.1 = x := ⟨_, rfl⟩
          rw [e3] at cf3
          have cf4 := (HB.out.cell (p := ⟨g, off + j * 5 + 4, none⟩) hgl).trans cc.2.2.2.2
          obtain ⟨x4, e4⟩ : ∃ x, (X.O[j]).2.2.2.2 = x := ⟨_, rfl⟩
          rw [e4] at cf4
          have HG' : Hid (∀ k : Int, (if (if G1 < x1 then x1 else G1) < x2 then x2 else (if G1 < x1 then x1 else G1)) ≤ k ↔ 0 ≤ k ∧ (∀ i (h : i < X.W.length), (X.W[i]).1 ≤ k) ∧ (∀ i (h : i < X.O.length), i < j + 1 → (X.O[i]).2.1 ≤ k ∧ (X.O[i]).2.2.1 ≤ k)) := fun k => by
            have h0 := HG.out k
            rw [max_le', max_le', h0]
            constructor
            · intro hh
              refine ⟨hh.1.1.1, hh.1.1.2.1, fun i h hi => ?_⟩
              rcases Nat.lt_or_ge i j with h' | h'
              · exact hh.1.1.2.2 i h h'
              · obtain rfl : i = j := by omega
                rw [e1, e2]
                exact ⟨hh.1.2, hh.2⟩
            · intro hh
              have hj' := hh.2.2 j hjl (by omega)
              rw [e1, e2] at hj'
              exact ⟨⟨⟨hh.1, hh.2.1, fun i h hi => hh.2.2 i h (by omega)⟩, hj'.1⟩, hj'.2⟩
          have HBX : Hid (Below w.heap.size w (wr.alloc (.cells #[.int .i64 x0, .int .i64 x1, .int .i64 x2, .int .i64 x3, .int .i64 x4] 88))) := HB.out.alloc HB.out.size _
          have HPX : Hid ((wr.alloc (.cells #[.int .i64 x0, .int .i64 x1, .int .i64 x2, .int .i64 x3, .int .i64 x4] 88)).heap[w.heap.size]? = some (.cells #[.slice q0 n0 c0, .slice q1 n1 c1, .slice (some ⟨g, off, none⟩) n2 c2, .slice q3 n3 c3, .slice q4 n4 c4] 35)) := row_on HP.out ((Below.refl _ _).alloc (Nat.le_refl _) _)
          clear hc cc HG HB HP e0 e1 e2 e3 e4 kp
          obtain ⟨m, hm⟩ : ∃ m, (if (if G1 < x1 then x1 else G1) < x2 then x2 else (if G1 < x1 then x1 else G1)) = m := ⟨_, rfl⟩
          rw [hm] at HG'
          have HM : Hid ((if (if G1 < x1 then x1 else G1) < x2 then x2 else (if G1 < x1 then x1 else G1)) = m) := hm
          clear hm
          have hmx : ∀ W : World, (Builtin.max_ #[3, 3, 3] 3 #[.int .i64 G1, .int .i64 x1, .int .i64 x2]).run Tryz.prog W = .ok (.int .i64 m) W := fun W => by
            rw [← HM.out]
            simp [Builtin.max_, Builtin.max2]
          clear HM
          go_wp2
          go_roundg (gk - 1)
          case measure => omega
          case rel => exact ⟨j + 1, _, by omega, rfl, by go_num, HG', HBX, HPX⟩
        · have HG2 : Hid (∀ k : Int, G1 ≤ k ↔ 0 ≤ k ∧ (∀ i (h : i < X.W.length), (X.W[i]).1 ≤ k) ∧ (∀ i (h : i < X.O.length), (X.O[i]).2.1 ≤ k ∧ (X.O[i]).2.2.1 ≤ k)) := fun k => by
            have h0 := HG.out k
            have hl := HL2.out
            rw [h0]
            constructor
            · intro hh
              exact ⟨hh.1, hh.2.1, fun i h => hh.2.2 i h (by omega)⟩
            · intro hh
              exact ⟨hh.1, hh.2.1, fun i h hi => hh.2.2 i h⟩
          clear HG
          have HG := HG2
          clear HG2
          go_wp2
          try clear kp
          go_loopg [3, 39] n3 (fun gk v i wr => ∃ (j : Nat) (G : Int), j + gk = n3 ∧ v = .int .i64 G ∧ i = .int .i64 j ∧ Hid (∀ k : Int, G ≤ k ↔ 0 ≤ k ∧ (∀ i (h : i < X.W.length), (X.W[i]).1 ≤ k) ∧ (∀ i (h : i < X.O.length), (X.O[i]).2.1 ≤ k ∧ (X.O[i]).2.2.1 ≤ k) ∧ (∀ i (h : i < X.U.length), i < j → (X.U[i]).1 ≤ k)) ∧ Hid (Below w.heap.size w wr) ∧ Hid (wr.heap[w.heap.size]? = some (.cells #[.slice q0 n0 c0, .slice q1 n1 c1, .slice q2 n2 c2, .slice q3 n3 c3, .slice q4 n4 c4] 35)))
          case atStart => exact ⟨0, G1, by omega, rfl, rfl, fun k => ⟨fun h => by have h2 := (HG.out k).1 h; exact ⟨h2.1, h2.2.1, h2.2.2, fun i _ hi => by omega⟩, fun h => (HG.out k).2 ⟨h.1, h.2.1, h.2.2.1⟩⟩, HB, HP⟩
          case round =>
            clear HB HP
            try clear HG
            try clear hlt
            obtain ⟨j, G2, hj, rfl, rfl, HG, HB, HP⟩ := hrel
            have kp := boxO_cells HP.out
            by_cases hlt : j < n3
            · have hjl : j < X.U.length := by have := HL3.out; omega
              obtain ⟨g, off, ha, hc⟩ := HR3.out (by omega)
              have hgl : g < w.heap.size := World.block_lt_of_cell? w ⟨g, off + j * 3, none⟩ (hc j hjl).1
              subst ha
              have cc := hc j hjl
              have cf0 := (HB.out.cell (p := ⟨g, off + j * 3, none⟩) hgl).trans cc.1
              obtain ⟨x0, e0⟩ : ∃ x, (X.U[j]).1 = x := ⟨_, rfl⟩
              rw [e0] at cf0
              have cf1 := (HB.out.cell (p := ⟨g, off + j * 3 + 1, none⟩) hgl).trans cc.2.1
              obtain ⟨x1, e1⟩ : ∃ x, (X.U[j]).2.1 = x := ⟨_, rfl⟩
              rw [e1] at cf1
              have cf2 := (HB.out.cell (p := ⟨g, off + j * 3 + 2, none⟩) hgl).trans cc.2.2
              obtain ⟨x2, e2⟩ : ∃ x, (X.U[j]).2.2 = x := ⟨_, rfl⟩
              rw [e2] at cf2
              have HG' : Hid (∀ k : Int, (if G2 < x0 then x0 else G2) ≤ k ↔ 0 ≤ k ∧ (∀ i (h : i < X.W.length), (X.W[i]).1 ≤ k) ∧ (∀ i (h : i < X.O.length), (X.O[i]).2.1 ≤ k ∧ (X.O[i]).2.2.1 ≤ k) ∧ (∀ i (h : i < X.U.length), i < j + 1 → (X.U[i]).1 ≤ k)) := fun k => by
                have h0 := HG.out k
                rw [max_le', h0]
                constructor
                · intro hh
                  refine ⟨hh.1.1, hh.1.2.1, hh.1.2.2.1, fun i h hi => ?_⟩
                  rcases Nat.lt_or_ge i j with h' | h'
                  · exact hh.1.2.2.2 i h h'
                  · obtain rfl : i = j := by omega
                    rw [e0]
                    exact hh.2
                · intro hh
                  have hj' := hh.2.2.2 j hjl (by omega)
                  rw [e0] at hj'
                  exact ⟨⟨hh.1, hh.2.1, hh.2.2.1, fun i h hi => hh.2.2.2 i h (by omega)⟩, hj'⟩
              have HBX : Hid (Below w.heap.size w (wr.alloc (.cells #[.int .i64 x0, .int .i64 x1, .int .i64 x2] 104))) := HB.out.alloc HB.out.size _
              have HPX : Hid ((wr.alloc (.cells #[.int .i64 x0, .int .i64 x1, .int .i64 x2] 104)).heap[w.heap.size]? = some (.cells #[.slice q0 n0 c0, .slice q1 n1 c1, .slice q2 n2 c2, .slice (some ⟨g, off, none⟩) n3 c3, .slice q4 n4 c4] 35)) := row_on HP.out ((Below.refl _ _).alloc (Nat.le_refl _) _)
              clear hc cc HG HB HP e0 e1 e2 kp
              obtain ⟨m, hm⟩ : ∃ m, (if G2 < x0 then x0 else G2) = m := ⟨_, rfl⟩
              rw [hm] at HG'
              have HM : Hid ((if G2 < x0 then x0 else G2) = m) := hm
              clear hm
              by_cases hgx : G2 < x0
              · obtain rfl : x0 = m := by have := HM.out; rw [if_pos hgx] at this; exact this
                clear HM
                go_wp2
                go_roundg (gk - 1)
                case measure => omega
                case rel => exact ⟨j + 1, _, by omega, rfl, by go_num, HG', HBX, HPX⟩
              · obtain rfl : G2 = m := by have := HM.out; rw [if_neg hgx] at this; exact this
                clear HM
                go_wp2
                go_roundg (gk - 1)
                case measure => omega
                case rel => exact ⟨j + 1, _, by omega, rfl, by go_num, HG', HBX, HPX⟩
            · have HG2 : Hid (∀ k : Int, G2 ≤ k ↔ 0 ≤ k ∧ (∀ i (h : i < X.W.length), (X.W[i]).1 ≤ k) ∧ (∀ i (h : i < X.O.length), (X.O[i]).2.1 ≤ k ∧ (X.O[i]).2.2.1 ≤ k) ∧ (∀ i (h : i < X.U.length), (X.U[i]).1 ≤ k)) := fun k => by
                have h0 := HG.out k
                have hl := HL3.out
                rw [h0]
                constructor
                · intro hh
                  exact ⟨hh.1, hh.2.1, hh.2.2.1, fun i h => hh.2.2.2 i h (by omega)⟩
                · intro hh
                  exact ⟨hh.1, hh.2.1, hh.2.2.1, fun i h hi => hh.2.2.2 i h⟩
              clear HG
              have HG := HG2
              clear HG2
              go_wp2
              try clear kp
              go_ret
              refine ⟨G2, rfl, ?_, HB.out⟩
              have h0 := HG.out (X.R.length : Int)
              rw [h0]
              unfold PartsX
              exact ⟨fun hh => ⟨by omega, hh.1, hh.2.1, hh.2.2⟩, fun hh => ⟨hh.2.1, hh.2.2.1, hh.2.2.2⟩⟩
end Go.Proofs.YtphijlknefgkiaaGreatDoor
