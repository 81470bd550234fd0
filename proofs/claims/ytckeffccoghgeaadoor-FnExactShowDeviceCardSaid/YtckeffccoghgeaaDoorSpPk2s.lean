/-
  PumpOk of the specification, a quarter of its ways.
-/
import Derived.Test.YtckeffccoghgeaaDoorSpPk0s
namespace Go.Proofs.YtckeffccoghgeaaDoor
open Go.RowKit Go.PlainAid
set_option linter.unusedVariables false
set_option linter.unusedSimpArgs false

set_option maxRecDepth 100000 in
set_option maxHeartbeats 4000000 in
theorem pumpokS_s31 (n d r l b g : Int)  (B : Bool) (hB : B = true ↔ Pm.ok ⟨3, n, d, r, l, b, g, 1⟩) (w : World) : Calls Tryd.prog 28 #[PV 3 n d r l b g 1] w fun e w' => e = .returned (.bool B) ∧ Below w.heap.size w w' := by
  have HB0 : Hid (Below w.heap.size w (w.alloc (PB 3 n d r l b g 1))) := alP _ _
  have HK0 : Hid ((w.alloc (PB 3 n d r l b g 1)).heap[w.heap.size]? = some (PB 3 n d r l b g 1)) := heap_new w _
  have k0 := box8_cells HK0.out
  have HR : Hid (∀ w, Calls Tryd.prog 49 #[.agg #[.int .i64 n, .int .i64 d, .int .i64 r]] w fun e w' => e = .returned (.bool (rateOk n d r)) ∧ Below w.heap.size w w') := fun w => rateS n d r w
  have D1 : Hid (decide ((0 : Int) ≤ 3 ∧ (3 : Int) ≤ 3) = true) := rfl
  by_cases h2 : ratR n d r
  · have Dr : Hid (rateOk n d r = true) := rat_yes h2
    have h2' := h2
    unfold ratR at h2'
    have hw : IntKind.i64.wrap (3 * d) = 3 * d := by rw [IntKind.wrap_i64]; omega
    by_cases h3 : n ≤ 3 * d
    · have _t := trivial
      by_cases h4 : 0 ≤ l ∧ l ≤ 5000
      · have Dl : Hid (decide (0 ≤ l ∧ l ≤ 5000) = true) := decide_eq_true h4
        by_cases h5 : 0 < l
        · have _t := trivial
          by_cases h6 : 0 ≤ b ∧ b ≤ 100
          · have Db : Hid (decide (0 ≤ b ∧ b ≤ 100) = true) := decide_eq_true h6
            by_cases h7 : 0 ≤ g ∧ g ≤ 1000000000000
            · have Dg : Hid (decide (0 ≤ g ∧ g ≤ 1000000000000) = true) := decide_eq_true h7
              have Dk : Hid (decide ((0 : Int) ≤ 1 ∧ (1 : Int) ≤ 2) = true) := rfl
              obtain rfl : B = true := pm_yes (p := ⟨3, n, d, r, l, b, g, 1⟩) hB (by unfold Pm.ok; dsimp only; exact ⟨by omega, h2, by omega, by omega, by omega, by omega, by omega, by omega, by omega⟩)
              clear hB h2 h2' h4 h6 h7
              go_enter Tryd.func28, Tryd.ntmps28
              go_wp2_with fail
              refine (inS 0 3 3 true D1.out _).mono ?_
              rintro e wq ⟨rfl, rfl⟩
              go_wp2_with fail
              refine (HR.out _).mono ?_
              rintro e w1 ⟨rfl, hb1⟩
              have HB1 : Hid (Below w.heap.size w w1) := bel_on (Nat.le_refl _) HB0.out hb1
              have HK1 : Hid (w1.heap[w.heap.size]? = some (PB 3 n d r l b g 1)) := row_on HK0.out hb1
              have k1 := box8_cells HK1.out
              clear hb1 HB0 HK0 k0
              rw [Dr.out]
              go_wp2_with fail
              refine (inS 0 5000 l true Dl.out _).mono ?_
              rintro e wq ⟨rfl, rfl⟩
              go_wp2_with fail
              refine (inS 0 100 b true Db.out _).mono ?_
              rintro e wq ⟨rfl, rfl⟩
              go_wp2_with fail
              refine (inS 0 1000000000000 g true Dg.out _).mono ?_
              rintro e wq ⟨rfl, rfl⟩
              go_wp2_with fail
              refine (inS 0 2 1 true Dk.out _).mono ?_
              rintro e wq ⟨rfl, rfl⟩
              go_wp2
              go_ret
              exact ⟨rfl, HB1.out⟩
            · have Dg : Hid (decide (0 ≤ g ∧ g ≤ 1000000000000) = false) := decide_eq_false h7
              obtain rfl : B = false := pm_no (p := ⟨3, n, d, r, l, b, g, 1⟩) hB (fun h => by unfold Pm.ok ratR at h; dsimp only at h; omega)
              clear hB h2 h2' h4 h6 h7
              go_enter Tryd.func28, Tryd.ntmps28
              go_wp2_with fail
              refine (inS 0 3 3 true D1.out _).mono ?_
              rintro e wq ⟨rfl, rfl⟩
              go_wp2_with fail
              refine (HR.out _).mono ?_
              rintro e w1 ⟨rfl, hb1⟩
              have HB1 : Hid (Below w.heap.size w w1) := bel_on (Nat.le_refl _) HB0.out hb1
              have HK1 : Hid (w1.heap[w.heap.size]? = some (PB 3 n d r l b g 1)) := row_on HK0.out hb1
              have k1 := box8_cells HK1.out
              clear hb1 HB0 HK0 k0
              rw [Dr.out]
              go_wp2_with fail
              refine (inS 0 5000 l true Dl.out _).mono ?_
              rintro e wq ⟨rfl, rfl⟩
              go_wp2_with fail
              refine (inS 0 100 b true Db.out _).mono ?_
              rintro e wq ⟨rfl, rfl⟩
              go_wp2_with fail
              refine (inS 0 1000000000000 g false Dg.out _).mono ?_
              rintro e wq ⟨rfl, rfl⟩
              go_wp2
              go_ret
              exact ⟨rfl, HB1.out⟩
          · have Db : Hid (decide (0 ≤ b ∧ b ≤ 100) = false) := decide_eq_false h6
            obtain rfl : B = false := pm_no (p := ⟨3, n, d, r, l, b, g, 1⟩) hB (fun h => by unfold Pm.ok ratR at h; dsimp only at h; omega)
            clear hB h2 h2' h4 h6
            go_enter Tryd.func28, Tryd.ntmps28
            go_wp2_with fail
            refine (inS 0 3 3 true D1.out _).mono ?_
            rintro e wq ⟨rfl, rfl⟩
            go_wp2_with fail
            refine (HR.out _).mono ?_
            rintro e w1 ⟨rfl, hb1⟩
            have HB1 : Hid (Below w.heap.size w w1) := bel_on (Nat.le_refl _) HB0.out hb1
            have HK1 : Hid (w1.heap[w.heap.size]? = some (PB 3 n d r l b g 1)) := row_on HK0.out hb1
            have k1 := box8_cells HK1.out
            clear hb1 HB0 HK0 k0
            rw [Dr.out]
            go_wp2_with fail
            refine (inS 0 5000 l true Dl.out _).mono ?_
            rintro e wq ⟨rfl, rfl⟩
            go_wp2_with fail
            refine (inS 0 100 b false Db.out _).mono ?_
            rintro e wq ⟨rfl, rfl⟩
            go_wp2
            go_ret
            exact ⟨rfl, HB1.out⟩
        · obtain rfl : l = 0 := by omega
          obtain rfl : B = false := pm_no (p := ⟨3, n, d, r, 0, b, g, 1⟩) hB (fun h => by unfold Pm.ok ratR at h; dsimp only at h; omega)
          clear hB h2 h2' h4 h5
          go_enter Tryd.func28, Tryd.ntmps28
          go_wp2_with fail
          refine (inS 0 3 3 true D1.out _).mono ?_
          rintro e wq ⟨rfl, rfl⟩
          go_wp2_with fail
          refine (HR.out _).mono ?_
          rintro e w1 ⟨rfl, hb1⟩
          have HB1 : Hid (Below w.heap.size w w1) := bel_on (Nat.le_refl _) HB0.out hb1
          have HK1 : Hid (w1.heap[w.heap.size]? = some (PB 3 n d r 0 b g 1)) := row_on HK0.out hb1
          have k1 := box8_cells HK1.out
          clear hb1 HB0 HK0 k0
          rw [Dr.out]
          go_wp2_with fail
          refine (inS 0 5000 0 true Dl.out _).mono ?_
          rintro e wq ⟨rfl, rfl⟩
          go_wp2
          go_ret
          exact ⟨rfl, HB1.out⟩
      · have Dl : Hid (decide (0 ≤ l ∧ l ≤ 5000) = false) := decide_eq_false h4
        obtain rfl : B = false := pm_no (p := ⟨3, n, d, r, l, b, g, 1⟩) hB (fun h => by unfold Pm.ok ratR at h; dsimp only at h; omega)
        clear hB h2 h2' h4
        go_enter Tryd.func28, Tryd.ntmps28
        go_wp2_with fail
        refine (inS 0 3 3 true D1.out _).mono ?_
        rintro e wq ⟨rfl, rfl⟩
        go_wp2_with fail
        refine (HR.out _).mono ?_
        rintro e w1 ⟨rfl, hb1⟩
        have HB1 : Hid (Below w.heap.size w w1) := bel_on (Nat.le_refl _) HB0.out hb1
        have HK1 : Hid (w1.heap[w.heap.size]? = some (PB 3 n d r l b g 1)) := row_on HK0.out hb1
        have k1 := box8_cells HK1.out
        clear hb1 HB0 HK0 k0
        rw [Dr.out]
        go_wp2_with fail
        refine (inS 0 5000 l false Dl.out _).mono ?_
        rintro e wq ⟨rfl, rfl⟩
        go_wp2
        go_ret
        exact ⟨rfl, HB1.out⟩
    · obtain rfl : B = false := pm_no (p := ⟨3, n, d, r, l, b, g, 1⟩) hB (fun h => by unfold Pm.ok ratR at h; dsimp only at h; omega)
      clear hB h2 h2'
      go_enter Tryd.func28, Tryd.ntmps28
      go_wp2_with fail
      refine (inS 0 3 3 true D1.out _).mono ?_
      rintro e wq ⟨rfl, rfl⟩
      go_wp2_with fail
      refine (HR.out _).mono ?_
      rintro e w1 ⟨rfl, hb1⟩
      have HB1 : Hid (Below w.heap.size w w1) := bel_on (Nat.le_refl _) HB0.out hb1
      have HK1 : Hid (w1.heap[w.heap.size]? = some (PB 3 n d r l b g 1)) := row_on HK0.out hb1
      have k1 := box8_cells HK1.out
      clear hb1 HB0 HK0 k0
      rw [Dr.out]
      go_wp2
      go_ret
      exact ⟨rfl, HB1.out⟩
  · have Dr : Hid (rateOk n d r = false) := rat_no h2
    obtain rfl : B = false := pm_no (p := ⟨3, n, d, r, l, b, g, 1⟩) hB (fun h => by unfold Pm.ok at h; dsimp only at h; exact h2 h.2.1)
    clear hB h2
    go_enter Tryd.func28, Tryd.ntmps28
    go_wp2_with fail
    refine (inS 0 3 3 true D1.out _).mono ?_
    rintro e wq ⟨rfl, rfl⟩
    go_wp2_with fail
    refine (HR.out _).mono ?_
    rintro e w1 ⟨rfl, hb1⟩
    have HB1 : Hid (Below w.heap.size w w1) := bel_on (Nat.le_refl _) HB0.out hb1
    have HK1 : Hid (w1.heap[w.heap.size]? = some (PB 3 n d r l b g 1)) := row_on HK0.out hb1
    have k1 := box8_cells HK1.out
    clear hb1 HB0 HK0 k0
    rw [Dr.out]
    go_wp2
    go_ret
    exact ⟨rfl, HB1.out⟩
end Go.Proofs.YtckeffccoghgeaaDoor
