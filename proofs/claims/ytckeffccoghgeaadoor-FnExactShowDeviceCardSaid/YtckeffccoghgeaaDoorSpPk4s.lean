/-
  PumpOk of the specification, a quarter of its ways.
-/
import Derived.Test.YtckeffccoghgeaaDoorSpPk0s
namespace Go.Proofs.YtckeffccoghgeaaDoor
open Go.RowKit Go.PlainAid
set_option linter.unusedVariables false
set_option linter.unusedSimpArgs false

set_option maxRecDepth 100000 in
set_option maxHeartbeats 4000000 in
theorem pumpokS_so (s n d r l b g k : Int) (hs1 : ¬ s = 1) (hs3 : ¬ s = 3) (B : Bool) (hB : B = true ↔ Pm.ok ⟨s, n, d, r, l, b, g, k⟩) (w : World) : Calls Tryd.prog 28 #[PV s n d r l b g k] w fun e w' => e = .returned (.bool B) ∧ Below w.heap.size w w' := by
  have HB0 : Hid (Below w.heap.size w (w.alloc (PB s n d r l b g k))) := alP _ _
  have HK0 : Hid ((w.alloc (PB s n d r l b g k)).heap[w.heap.size]? = some (PB s n d r l b g k)) := heap_new w _
  have k0 := box8_cells HK0.out
  have HR : Hid (∀ w, Calls Tryd.prog 49 #[.agg #[.int .i64 n, .int .i64 d, .int .i64 r]] w fun e w' => e = .returned (.bool (rateOk n d r)) ∧ Below w.heap.size w w') := fun w => rateS n d r w
  have q1 : (s == 1) = false := by simpa using hs1
  have q3 : (s == 3) = false := by simpa using hs3
  by_cases h1 : 0 ≤ s ∧ s ≤ 3
  · have D1 : Hid (decide (0 ≤ s ∧ s ≤ 3) = true) := decide_eq_true h1
    by_cases h2 : ratR n d r
    · have Dr : Hid (rateOk n d r = true) := rat_yes h2
      have h2' := h2
      unfold ratR at h2'
      have hw : IntKind.i64.wrap (3 * d) = 3 * d := by rw [IntKind.wrap_i64]; omega
      by_cases h3 : n ≤ 3 * d
      · have _t := trivial
        by_cases h4 : 0 ≤ l ∧ l ≤ 5000
        · have Dl : Hid (decide (0 ≤ l ∧ l ≤ 5000) = true) := decide_eq_true h4
          by_cases h5 : 0 < l
          · obtain rfl : B = false := pm_no (p := ⟨s, n, d, r, l, b, g, k⟩) hB (fun h => by unfold Pm.ok ratR at h; dsimp only at h; omega)
            clear hB h1 h2 h2' h4 hs1 hs3
            go_enter Tryd.func28, Tryd.ntmps28
            go_wp2_with fail
            refine (inS 0 3 s true D1.out _).mono ?_
            rintro e wq ⟨rfl, rfl⟩
            go_wp2_with fail
            refine (HR.out _).mono ?_
            rintro e w1 ⟨rfl, hb1⟩
            have HB1 : Hid (Below w.heap.size w w1) := bel_on (Nat.le_refl _) HB0.out hb1
            have HK1 : Hid (w1.heap[w.heap.size]? = some (PB s n d r l b g k)) := row_on HK0.out hb1
            have k1 := box8_cells HK1.out
            clear hb1 HB0 HK0 k0
            rw [Dr.out]
            go_wp2_with fail
            refine (inS 0 5000 l true Dl.out _).mono ?_
            rintro e wq ⟨rfl, rfl⟩
            go_wp2
            go_ret
            exact ⟨rfl, HB1.out⟩
          · obtain rfl : l = 0 := by omega
            clear h5
            by_cases h6 : 0 ≤ b ∧ b ≤ 100
            · have Db : Hid (decide (0 ≤ b ∧ b ≤ 100) = true) := decide_eq_true h6
              by_cases h7 : 0 ≤ g ∧ g ≤ 1000000000000
              · have Dg : Hid (decide (0 ≤ g ∧ g ≤ 1000000000000) = true) := decide_eq_true h7
                by_cases h8 : 0 ≤ k ∧ k ≤ 2
                · have Dk : Hid (decide (0 ≤ k ∧ k ≤ 2) = true) := decide_eq_true h8
                  by_cases h9 : k = 0
                  · have qk0 : (k == 0) = true := by simpa using h9
                    obtain rfl : B = true := pm_yes (p := ⟨s, n, d, r, 0, b, g, k⟩) hB (by unfold Pm.ok; dsimp only; exact ⟨by omega, h2, by omega, by omega, by omega, by omega, by omega, by omega, by omega⟩)
                    clear hB h1 h2 h2' h4 h6 h7 h8 h9 hs1 hs3
                    go_enter Tryd.func28, Tryd.ntmps28
                    go_wp2_with fail
                    refine (inS 0 3 s true D1.out _).mono ?_
                    rintro e wq ⟨rfl, rfl⟩
                    go_wp2_with fail
                    refine (HR.out _).mono ?_
                    rintro e w1 ⟨rfl, hb1⟩
                    have HB1 : Hid (Below w.heap.size w w1) := bel_on (Nat.le_refl _) HB0.out hb1
                    have HK1 : Hid (w1.heap[w.heap.size]? = some (PB s n d r 0 b g k)) := row_on HK0.out hb1
                    have k1 := box8_cells HK1.out
                    clear hb1 HB0 HK0 k0
                    rw [Dr.out]
                    go_wp2_with fail
                    refine (inS 0 5000 0 true Dl.out _).mono ?_
                    rintro e wq ⟨rfl, rfl⟩
                    go_wp2_with fail
                    refine (inS 0 100 b true Db.out _).mono ?_
                    rintro e wq ⟨rfl, rfl⟩
                    go_wp2_with fail
                    refine (inS 0 1000000000000 g true Dg.out _).mono ?_
                    rintro e wq ⟨rfl, rfl⟩
                    go_wp2_with fail
                    refine (inS 0 2 k true Dk.out _).mono ?_
                    rintro e wq ⟨rfl, rfl⟩
                    go_wp2
                    go_ret
                    exact ⟨rfl, HB1.out⟩
                  · have qk0 : (k == 0) = false := by simpa using h9
                    obtain rfl : B = false := pm_no (p := ⟨s, n, d, r, 0, b, g, k⟩) hB (fun h => by unfold Pm.ok ratR at h; dsimp only at h; omega)
                    clear hB h1 h2 h2' h4 h6 h7 h8 h9 hs1 hs3
                    go_enter Tryd.func28, Tryd.ntmps28
                    go_wp2_with fail
                    refine (inS 0 3 s true D1.out _).mono ?_
                    rintro e wq ⟨rfl, rfl⟩
                    go_wp2_with fail
                    refine (HR.out _).mono ?_
                    rintro e w1 ⟨rfl, hb1⟩
                    have HB1 : Hid (Below w.heap.size w w1) := bel_on (Nat.le_refl _) HB0.out hb1
                    have HK1 : Hid (w1.heap[w.heap.size]? = some (PB s n d r 0 b g k)) := row_on HK0.out hb1
                    have k1 := box8_cells HK1.out
                    clear hb1 HB0 HK0 k0
                    rw [Dr.out]
                    go_wp2_with fail
                    refine (inS 0 5000 0 true Dl.out _).mono ?_
                    rintro e wq ⟨rfl, rfl⟩
                    go_wp2_with fail
                    refine (inS 0 100 b true Db.out _).mono ?_
                    rintro e wq ⟨rfl, rfl⟩
                    go_wp2_with fail
                    refine (inS 0 1000000000000 g true Dg.out _).mono ?_
                    rintro e wq ⟨rfl, rfl⟩
                    go_wp2_with fail
                    refine (inS 0 2 k true Dk.out _).mono ?_
                    rintro e wq ⟨rfl, rfl⟩
                    go_wp2
                    go_ret
                    exact ⟨rfl, HB1.out⟩
                · have Dk : Hid (decide (0 ≤ k ∧ k ≤ 2) = false) := decide_eq_false h8
                  obtain rfl : B = false := pm_no (p := ⟨s, n, d, r, 0, b, g, k⟩) hB (fun h => by unfold Pm.ok ratR at h; dsimp only at h; omega)
                  clear hB h1 h2 h2' h4 h6 h7 h8 hs1 hs3
                  go_enter Tryd.func28, Tryd.ntmps28
                  go_wp2_with fail
                  refine (inS 0 3 s true D1.out _).mono ?_
                  rintro e wq ⟨rfl, rfl⟩
                  go_wp2_with fail
                  refine (HR.out _).mono ?_
                  rintro e w1 ⟨rfl, hb1⟩
                  have HB1 : Hid (Below w.heap.size w w1) := bel_on (Nat.le_refl _) HB0.out hb1
                  have HK1 : Hid (w1.heap[w.heap.size]? = some (PB s n d r 0 b g k)) := row_on HK0.out hb1
                  have k1 := box8_cells HK1.out
                  clear hb1 HB0 HK0 k0
                  rw [Dr.out]
                  go_wp2_with fail
                  refine (inS 0 5000 0 true Dl.out _).mono ?_
                  rintro e wq ⟨rfl, rfl⟩
                  go_wp2_with fail
                  refine (inS 0 100 b true Db.out _).mono ?_
                  rintro e wq ⟨rfl, rfl⟩
                  go_wp2_with fail
                  refine (inS 0 1000000000000 g true Dg.out _).mono ?_
                  rintro e wq ⟨rfl, rfl⟩
                  go_wp2_with fail
                  refine (inS 0 2 k false Dk.out _).mono ?_
                  rintro e wq ⟨rfl, rfl⟩
                  go_wp2
                  go_ret
                  exact ⟨rfl, HB1.out⟩
              · have Dg : Hid (decide (0 ≤ g ∧ g ≤ 1000000000000) = false) := decide_eq_false h7
                obtain rfl : B = false := pm_no (p := ⟨s, n, d, r, 0, b, g, k⟩) hB (fun h => by unfold Pm.ok ratR at h; dsimp only at h; omega)
                clear hB h1 h2 h2' h4 h6 h7 hs1 hs3
                go_enter Tryd.func28, Tryd.ntmps28
                go_wp2_with fail
                refine (inS 0 3 s true D1.out _).mono ?_
                rintro e wq ⟨rfl, rfl⟩
                go_wp2_with fail
                refine (HR.out _).mono ?_
                rintro e w1 ⟨rfl, hb1⟩
                have HB1 : Hid (Below w.heap.size w w1) := bel_on (Nat.le_refl _) HB0.out hb1
                have HK1 : Hid (w1.heap[w.heap.size]? = some (PB s n d r 0 b g k)) := row_on HK0.out hb1
                have k1 := box8_cells HK1.out
                clear hb1 HB0 HK0 k0
                rw [Dr.out]
                go_wp2_with fail
                refine (inS 0 5000 0 true Dl.out _).mono ?_
                rintro e wq ⟨rfl, rfl⟩
                go_wp2_with fail
                refine (inS 0 100 b true Db.out _).mono ?_
                rintro e wq ⟨rfl, rfl⟩
                go_wp2_with fail
                refine (inS 0 1000000000000 g false Dg.out _).mono ?_
                rintro e wq ⟨rfl, rfl⟩
                go_wp2
                go_ret
                exact ⟨rfl, HB1.out⟩
            · have Db : Hid (decide (0 ≤ b ∧ b ≤ 100) = false) := decide_eq_false h6
              obtain rfl : B = false := pm_no (p := ⟨s, n, d, r, 0, b, g, k⟩) hB (fun h => by unfold Pm.ok ratR at h; dsimp only at h; omega)
              clear hB h1 h2 h2' h4 h6 hs1 hs3
              go_enter Tryd.func28, Tryd.ntmps28
              go_wp2_with fail
              refine (inS 0 3 s true D1.out _).mono ?_
              rintro e wq ⟨rfl, rfl⟩
              go_wp2_with fail
              refine (HR.out _).mono ?_
              rintro e w1 ⟨rfl, hb1⟩
              have HB1 : Hid (Below w.heap.size w w1) := bel_on (Nat.le_refl _) HB0.out hb1
              have HK1 : Hid (w1.heap[w.heap.size]? = some (PB s n d r 0 b g k)) := row_on HK0.out hb1
              have k1 := box8_cells HK1.out
              clear hb1 HB0 HK0 k0
              rw [Dr.out]
              go_wp2_with fail
              refine (inS 0 5000 0 true Dl.out _).mono ?_
              rintro e wq ⟨rfl, rfl⟩
              go_wp2_with fail
              refine (inS 0 100 b false Db.out _).mono ?_
              rintro e wq ⟨rfl, rfl⟩
              go_wp2
              go_ret
              exact ⟨rfl, HB1.out⟩
        · have Dl : Hid (decide (0 ≤ l ∧ l ≤ 5000) = false) := decide_eq_false h4
          obtain rfl : B = false := pm_no (p := ⟨s, n, d, r, l, b, g, k⟩) hB (fun h => by unfold Pm.ok ratR at h; dsimp only at h; omega)
          clear hB h1 h2 h2' h4 hs1 hs3
          go_enter Tryd.func28, Tryd.ntmps28
          go_wp2_with fail
          refine (inS 0 3 s true D1.out _).mono ?_
          rintro e wq ⟨rfl, rfl⟩
          go_wp2_with fail
          refine (HR.out _).mono ?_
          rintro e w1 ⟨rfl, hb1⟩
          have HB1 : Hid (Below w.heap.size w w1) := bel_on (Nat.le_refl _) HB0.out hb1
          have HK1 : Hid (w1.heap[w.heap.size]? = some (PB s n d r l b g k)) := row_on HK0.out hb1
          have k1 := box8_cells HK1.out
          clear hb1 HB0 HK0 k0
          rw [Dr.out]
          go_wp2_with fail
          refine (inS 0 5000 l false Dl.out _).mono ?_
          rintro e wq ⟨rfl, rfl⟩
          go_wp2
          go_ret
          exact ⟨rfl, HB1.out⟩
      · obtain rfl : B = false := pm_no (p := ⟨s, n, d, r, l, b, g, k⟩) hB (fun h => by unfold Pm.ok ratR at h; dsimp only at h; omega)
        clear hB h1 h2 h2' hs1 hs3
        go_enter Tryd.func28, Tryd.ntmps28
        go_wp2_with fail
        refine (inS 0 3 s true D1.out _).mono ?_
        rintro e wq ⟨rfl, rfl⟩
        go_wp2_with fail
        refine (HR.out _).mono ?_
        rintro e w1 ⟨rfl, hb1⟩
        have HB1 : Hid (Below w.heap.size w w1) := bel_on (Nat.le_refl _) HB0.out hb1
        have HK1 : Hid (w1.heap[w.heap.size]? = some (PB s n d r l b g k)) := row_on HK0.out hb1
        have k1 := box8_cells HK1.out
        clear hb1 HB0 HK0 k0
        rw [Dr.out]
        go_wp2
        go_ret
        exact ⟨rfl, HB1.out⟩
    · have Dr : Hid (rateOk n d r = false) := rat_no h2
      obtain rfl : B = false := pm_no (p := ⟨s, n, d, r, l, b, g, k⟩) hB (fun h => by unfold Pm.ok at h; dsimp only at h; exact h2 h.2.1)
      clear hB h1 h2 hs1 hs3
      go_enter Tryd.func28, Tryd.ntmps28
      go_wp2_with fail
      refine (inS 0 3 s true D1.out _).mono ?_
      rintro e wq ⟨rfl, rfl⟩
      go_wp2_with fail
      refine (HR.out _).mono ?_
      rintro e w1 ⟨rfl, hb1⟩
      have HB1 : Hid (Below w.heap.size w w1) := bel_on (Nat.le_refl _) HB0.out hb1
      have HK1 : Hid (w1.heap[w.heap.size]? = some (PB s n d r l b g k)) := row_on HK0.out hb1
      have k1 := box8_cells HK1.out
      clear hb1 HB0 HK0 k0
      rw [Dr.out]
      go_wp2
      go_ret
      exact ⟨rfl, HB1.out⟩
  · have D1 : Hid (decide (0 ≤ s ∧ s ≤ 3) = false) := decide_eq_false h1
    obtain rfl : B = false := pm_no (p := ⟨s, n, d, r, l, b, g, k⟩) hB (fun h => by unfold Pm.ok ratR at h; dsimp only at h; omega)
    clear hB h1 hs1 hs3
    go_enter Tryd.func28, Tryd.ntmps28
    go_wp2_with fail
    refine (inS 0 3 s false D1.out _).mono ?_
    rintro e wq ⟨rfl, rfl⟩
    go_wp2
    go_ret
    exact ⟨rfl, HB0.out⟩
end Go.Proofs.YtckeffccoghgeaaDoor
