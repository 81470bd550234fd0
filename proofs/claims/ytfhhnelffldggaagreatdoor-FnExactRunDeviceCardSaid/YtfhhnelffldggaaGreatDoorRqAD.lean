/-
  The table of half sums, out of the row's list; a world that holds it, for the witness.
-/
import Derived.Test.YtfhhnelffldggaaGreatDoorRqAC
import Derived.Test.YtfhhnelffldggaaGreatDoorRows
import Derived.Lib.LaidTab
import Derived.Test.YtfhhnelffldggaaGreatDoorRqAB
set_option maxRecDepth 100000
set_option maxHeartbeats 16000000
namespace Go.Proofs.YtfhhnelffldggaaGreatDoor.Q
open Go.ChangeShapes Go.WideShapes Go.ChangeAt Go.RowKit
theorem gTab : Tryz.prog.globalNamed "loop.example/g00200/impl.halfSums" = some 0 := by kernel_rfl
theorem gTabType : (Tryz.prog.globals[0]?).map (·.type) = some 204 := by kernel_rfl
theorem cellsTab : Tryz.prog.cellsOf 204 = 16 := by kernel_rfl
theorem cellsElem : Tryz.prog.cellsOf 197 = 1 := by kernel_rfl
def halfTab : List Int := [0, 1166650509, 2333301018, 3466261911, 3189058079, 4221339282, 889615109, 1888477064, 3558460437, 2442158232, 1594529039, 444807554, 1779230218, 797264519, 3776954128, 2761298845]
theorem half_datum : (Rows.laid_loop_example_g00200_impl_halfSums : DataW Unit) = Lib.tabData .u32 halfTab := by kernel_rfl
theorem half_at : ∀ r : Nat, r < 16 → halfTab.getD r 0 = (tab r : Nat) := by decide
theorem tab_of_is {W : World} (h : Lib.TabIs Tryz.prog W "loop.example/g00200/impl.halfSums" .u32 halfTab) : Tab W := by
  intro r hr
  rw [h.cell gTab r hr, half_at r hr]
theorem table_of {W : World} (h : laidMet Tryz.prog [("loop.example/g00200/impl.halfSums", Rows.laid_loop_example_g00200_impl_halfSums)] W) : Tab W :=
  tab_of_is (Lib.tabIs_of_head (rest := []) gTab gTabType Tryz.underlying204 Tryz.underlying197 cellsElem cellsTab (by rw [← half_datum]; exact h))
def setRow (cs : Array Value) : Obj → Obj
  | .cells _ t frozen => .cells cs t frozen
  | o => o
def layW (w : World) : World :=
  { w with heap := w.heap.modify 0 (setRow (halfTab.map (Value.int .u32)).toArray) }
end Go.Proofs.YtfhhnelffldggaaGreatDoor.Q
namespace Go.Proofs.YtfhhnelffldggaaGreatDoor
open Go.RowKit Go.PlainAid
set_option linter.unusedVariables false
set_option linter.unusedSimpArgs false
theorem pumpokS_s31 (n d r l b g : Int)  (B : Bool) (hB : B = true ↔ Pm.ok ⟨3, n, d, r, l, b, g, 1⟩) (w : World) : Calls Tryz.prog 94 #[PV 3 n d r l b g 1] w fun e w' => e = .returned (.bool B) ∧ Below w.heap.size w w' := by
  have HB0 : Hid (Below w.heap.size w (w.alloc (PB 3 n d r l b g 1))) := alP _ _
  have HK0 : Hid ((w.alloc (PB 3 n d r l b g 1)).heap[w.heap.size]? = some (PB 3 n d r l b g 1)) := heap_new w _
  have k0 := box8_cells HK0.out
  have HR : Hid (∀ w, Calls Tryz.prog 150 #[.agg #[.int .i64 n, .int .i64 d, .int .i64 r]] w fun e w' => e = .returned (.bool (rateOk n d r)) ∧ Below w.heap.size w w') := fun w => rateS n d r w
  have D1 : Hid (decide ((0 : Int) ≤ 3 ∧ (3 : Int) ≤ 3) = true) := rfl
  by_cases h2 : ratR n d r
  · have Dr : Hid (rateOk n d r = true) := rat_yes h2
    have h2' := h2
    unfold ratR at h2'
    have hw : IntKind.i64.wrap (3 * d) = 3 * d := by rw [IntKind.wrap_i64]; omega
    by_cases h3 : n ≤ 3 * d
    · have _t := trivial
      by_cases h4 : 0 ≤ l ∧ l ≤ 5000
      · have Dl : Hid (decide (0 ≤ l ∧ l ≤ 5000) = true) := decide_eq_true h4
        by_cases h5 : 0 < l
        · have _t := trivial
          by_cases h6 : 0 ≤ b ∧ b ≤ 100
          · have Db : Hid (decide (0 ≤ b ∧ b ≤ 100) = true) := decide_eq_true h6
            by_cases h7 : 0 ≤ g ∧ g ≤ 1000000000000
            · have Dg : Hid (decide (0 ≤ g ∧ g ≤ 1000000000000) = true) := decide_eq_true h7
              have Dk : Hid (decide ((0 : Int) ≤ 1 ∧ (1 : Int) ≤ 2) = true) := rfl
              obtain rfl : B = true := pm_yes (p := ⟨3, n, d, r, l, b, g, 1⟩) hB (by unfold Pm.ok; dsimp only; exact ⟨by omega, h2, by omega, by omega, by omega, by omega, by omega, by omega, by omega⟩)
              clear hB h2 h2' h4 h6 h7
              go_enter Tryz.func94, Tryz.ntmps94
              go_wp2_with fail
              refine (inS 0 3 3 true D1.out _).mono ?_
              rintro e wq ⟨rfl, rfl⟩
              go_wp2_with fail
              refine (HR.out _).mono ?_
              rintro e w1 ⟨rfl, hb1⟩
              have HB1 := bq HB0 hb1
              have HK1 : Hid (w1.heap[w.heap.size]? = some (PB 3 n d r l b g 1)) := row_on HK0.out hb1
              have k1 := box8_cells HK1.out
              clear hb1 HB0 HK0 k0
              rw [Dr.out]
              go_wp2_with fail
              refine (inS 0 5000 l true Dl.out _).mono ?_
              rintro e wq ⟨rfl, rfl⟩
              go_wp2_with fail
              refine (inS 0 100 b true Db.out _).mono ?_
              rintro e wq ⟨rfl, rfl⟩
              go_wp2_with fail
              refine (inS 0 1000000000000 g true Dg.out _).mono ?_
              rintro e wq ⟨rfl, rfl⟩
              go_wp2_with fail
              refine (inS 0 2 1 true Dk.out _).mono ?_
              rintro e wq ⟨rfl, rfl⟩
              go_wp2
              go_ret
              exact ⟨rfl, HB1.out⟩
            · have Dg : Hid (decide (0 ≤ g ∧ g ≤ 1000000000000) = false) := decide_eq_false h7
              obtain rfl : B = false := pm_no (p := ⟨3, n, d, r, l, b, g, 1⟩) hB (fun h => by unfold Pm.ok ratR at h; dsimp only at h; omega)
              clear hB h2 h2' h4 h6 h7
              go_enter Tryz.func94, Tryz.ntmps94
              go_wp2_with fail
              refine (inS 0 3 3 true D1.out _).mono ?_
              rintro e wq ⟨rfl, rfl⟩
              go_wp2_with fail
              refine (HR.out _).mono ?_
              rintro e w1 ⟨rfl, hb1⟩
              have HB1 := bq HB0 hb1
              have HK1 : Hid (w1.heap[w.heap.size]? = some (PB 3 n d r l b g 1)) := row_on HK0.out hb1
              have k1 := box8_cells HK1.out
              clear hb1 HB0 HK0 k0
              rw [Dr.out]
              go_wp2_with fail
              refine (inS 0 5000 l true Dl.out _).mono ?_
              rintro e wq ⟨rfl, rfl⟩
              go_wp2_with fail
              refine (inS 0 100 b true Db.out _).mono ?_
              rintro e wq ⟨rfl, rfl⟩
              go_wp2_with fail
              refine (inS 0 1000000000000 g false Dg.out _).mono ?_
              rintro e wq ⟨rfl, rfl⟩
              go_wp2
              go_ret
              exact ⟨rfl, HB1.out⟩
          · have Db : Hid (decide (0 ≤ b ∧ b ≤ 100) = false) := decide_eq_false h6
            obtain rfl : B = false := pm_no (p := ⟨3, n, d, r, l, b, g, 1⟩) hB (fun h => by unfold Pm.ok ratR at h; dsimp only at h; omega)
            clear hB h2 h2' h4 h6
            go_enter Tryz.func94, Tryz.ntmps94
            go_wp2_with fail
            refine (inS 0 3 3 true D1.out _).mono ?_
            rintro e wq ⟨rfl, rfl⟩
            go_wp2_with fail
            refine (HR.out _).mono ?_
            rintro e w1 ⟨rfl, hb1⟩
            have HB1 := bq HB0 hb1
            have HK1 : Hid (w1.heap[w.heap.size]? = some (PB 3 n d r l b g 1)) := row_on HK0.out hb1
            have k1 := box8_cells HK1.out
            clear hb1 HB0 HK0 k0
            rw [Dr.out]
            go_wp2_with fail
            refine (inS 0 5000 l true Dl.out _).mono ?_
            rintro e wq ⟨rfl, rfl⟩
            go_wp2_with fail
            refine (inS 0 100 b false Db.out _).mono ?_
            rintro e wq ⟨rfl, rfl⟩
            go_wp2
            go_ret
            exact ⟨rfl, HB1.out⟩
        · obtain rfl : l = 0 := by omega
          obtain rfl : B = false := pm_no (p := ⟨3, n, d, r, 0, b, g, 1⟩) hB (fun h => by unfold Pm.ok ratR at h; dsimp only at h; omega)
          clear hB h2 h2' h4 h5
          go_enter Tryz.func94, Tryz.ntmps94
          go_wp2_with fail
          refine (inS 0 3 3 true D1.out _).mono ?_
          rintro e wq ⟨rfl, rfl⟩
          go_wp2_with fail
          refine (HR.out _).mono ?_
          rintro e w1 ⟨rfl, hb1⟩
          have HB1 := bq HB0 hb1
          have HK1 : Hid (w1.heap[w.heap.size]? = some (PB 3 n d r 0 b g 1)) := row_on HK0.out hb1
          have k1 := box8_cells HK1.out
          clear hb1 HB0 HK0 k0
          rw [Dr.out]
          go_wp2_with fail
          refine (inS 0 5000 0 true Dl.out _).mono ?_
          rintro e wq ⟨rfl, rfl⟩
          go_wp2
          go_ret
          exact ⟨rfl, HB1.out⟩
      · have Dl : Hid (decide (0 ≤ l ∧ l ≤ 5000) = false) := decide_eq_false h4
        obtain rfl : B = false := pm_no (p := ⟨3, n, d, r, l, b, g, 1⟩) hB (fun h => by unfold Pm.ok ratR at h; dsimp only at h; omega)
        clear hB h2 h2' h4
        go_enter Tryz.func94, Tryz.ntmps94
        go_wp2_with fail
        refine (inS 0 3 3 true D1.out _).mono ?_
        rintro e wq ⟨rfl, rfl⟩
        go_wp2_with fail
        refine (HR.out _).mono ?_
        rintro e w1 ⟨rfl, hb1⟩
        have HB1 := bq HB0 hb1
        have HK1 : Hid (w1.heap[w.heap.size]? = some (PB 3 n d r l b g 1)) := row_on HK0.out hb1
        have k1 := box8_cells HK1.out
        clear hb1 HB0 HK0 k0
        rw [Dr.out]
        go_wp2_with fail
        refine (inS 0 5000 l false Dl.out _).mono ?_
        rintro e wq ⟨rfl, rfl⟩
        go_wp2
        go_ret
        exact ⟨rfl, HB1.out⟩
    · obtain rfl : B = false := pm_no (p := ⟨3, n, d, r, l, b, g, 1⟩) hB (fun h => by unfold Pm.ok ratR at h; dsimp only at h; omega)
      clear hB h2 h2'
      go_enter Tryz.func94, Tryz.ntmps94
      go_wp2_with fail
      refine (inS 0 3 3 true D1.out _).mono ?_
      rintro e wq ⟨rfl, rfl⟩
      go_wp2_with fail
      refine (HR.out _).mono ?_
      rintro e w1 ⟨rfl, hb1⟩
      have HB1 := bq HB0 hb1
      have HK1 : Hid (w1.heap[w.heap.size]? = some (PB 3 n d r l b g 1)) := row_on HK0.out hb1
      have k1 := box8_cells HK1.out
      clear hb1 HB0 HK0 k0
      rw [Dr.out]
      go_wp2
      go_ret
      exact ⟨rfl, HB1.out⟩
  · have Dr : Hid (rateOk n d r = false) := rat_no h2
    obtain rfl : B = false := pm_no (p := ⟨3, n, d, r, l, b, g, 1⟩) hB (fun h => by unfold Pm.ok at h; dsimp only at h; exact h2 h.2.1)
    clear hB h2
    go_enter Tryz.func94, Tryz.ntmps94
    go_wp2_with fail
    refine (inS 0 3 3 true D1.out _).mono ?_
    rintro e wq ⟨rfl, rfl⟩
    go_wp2_with fail
    refine (HR.out _).mono ?_
    rintro e w1 ⟨rfl, hb1⟩
    have HB1 := bq HB0 hb1
    have HK1 : Hid (w1.heap[w.heap.size]? = some (PB 3 n d r l b g 1)) := row_on HK0.out hb1
    have k1 := box8_cells HK1.out
    clear hb1 HB0 HK0 k0
    rw [Dr.out]
    go_wp2
    go_ret
    exact ⟨rfl, HB1.out⟩
theorem pumpokS_s3n (n d r l b g k : Int) (hk1 : ¬ k = 1) (B : Bool) (hB : B = true ↔ Pm.ok ⟨3, n, d, r, l, b, g, k⟩) (w : World) : Calls Tryz.prog 94 #[PV 3 n d r l b g k] w fun e w' => e = .returned (.bool B) ∧ Below w.heap.size w w' := by
  have HB0 : Hid (Below w.heap.size w (w.alloc (PB 3 n d r l b g k))) := alP _ _
  have HK0 : Hid ((w.alloc (PB 3 n d r l b g k)).heap[w.heap.size]? = some (PB 3 n d r l b g k)) := heap_new w _
  have k0 := box8_cells HK0.out
  have HR : Hid (∀ w, Calls Tryz.prog 150 #[.agg #[.int .i64 n, .int .i64 d, .int .i64 r]] w fun e w' => e = .returned (.bool (rateOk n d r)) ∧ Below w.heap.size w w') := fun w => rateS n d r w
  have qk : (k == 1) = false := by simpa using hk1
  have D1 : Hid (decide ((0 : Int) ≤ 3 ∧ (3 : Int) ≤ 3) = true) := rfl
  by_cases h2 : ratR n d r
  · have Dr : Hid (rateOk n d r = true) := rat_yes h2
    have h2' := h2
    unfold ratR at h2'
    have hw : IntKind.i64.wrap (3 * d) = 3 * d := by rw [IntKind.wrap_i64]; omega
    by_cases h3 : n ≤ 3 * d
    · have _t := trivial
      by_cases h4 : 0 ≤ l ∧ l ≤ 5000
      · have Dl : Hid (decide (0 ≤ l ∧ l ≤ 5000) = true) := decide_eq_true h4
        by_cases h5 : 0 < l
        · obtain rfl : B = false := pm_no (p := ⟨3, n, d, r, l, b, g, k⟩) hB (fun h => by unfold Pm.ok ratR at h; dsimp only at h; omega)
          clear hB h2 h2' h4 hk1
          go_enter Tryz.func94, Tryz.ntmps94
          go_wp2_with fail
          refine (inS 0 3 3 true D1.out _).mono ?_
          rintro e wq ⟨rfl, rfl⟩
          go_wp2_with fail
          refine (HR.out _).mono ?_
          rintro e w1 ⟨rfl, hb1⟩
          have HB1 := bq HB0 hb1
          have HK1 : Hid (w1.heap[w.heap.size]? = some (PB 3 n d r l b g k)) := row_on HK0.out hb1
          have k1 := box8_cells HK1.out
          clear hb1 HB0 HK0 k0
          rw [Dr.out]
          go_wp2_with fail
          refine (inS 0 5000 l true Dl.out _).mono ?_
          rintro e wq ⟨rfl, rfl⟩
          go_wp2
          go_ret
          exact ⟨rfl, HB1.out⟩
        · obtain rfl : l = 0 := by omega
          clear h5
          by_cases h6 : 0 ≤ b ∧ b ≤ 100
          · have Db : Hid (decide (0 ≤ b ∧ b ≤ 100) = true) := decide_eq_true h6
            by_cases h7 : 0 ≤ g ∧ g ≤ 1000000000000
            · have Dg : Hid (decide (0 ≤ g ∧ g ≤ 1000000000000) = true) := decide_eq_true h7
              by_cases h8 : 0 ≤ k ∧ k ≤ 2
              · have Dk : Hid (decide (0 ≤ k ∧ k ≤ 2) = true) := decide_eq_true h8
                obtain rfl : B = true := pm_yes (p := ⟨3, n, d, r, 0, b, g, k⟩) hB (by unfold Pm.ok; dsimp only; exact ⟨by omega, h2, by omega, by omega, by omega, by omega, by omega, by omega, by omega⟩)
                clear hB h2 h2' h4 h6 h7 h8 hk1
                go_enter Tryz.func94, Tryz.ntmps94
                go_wp2_with fail
                refine (inS 0 3 3 true D1.out _).mono ?_
                rintro e wq ⟨rfl, rfl⟩
                go_wp2_with fail
                refine (HR.out _).mono ?_
                rintro e w1 ⟨rfl, hb1⟩
                have HB1 := bq HB0 hb1
                have HK1 : Hid (w1.heap[w.heap.size]? = some (PB 3 n d r 0 b g k)) := row_on HK0.out hb1
                have k1 := box8_cells HK1.out
                clear hb1 HB0 HK0 k0
                rw [Dr.out]
                go_wp2_with fail
                refine (inS 0 5000 0 true Dl.out _).mono ?_
                rintro e wq ⟨rfl, rfl⟩
                go_wp2_with fail
                refine (inS 0 100 b true Db.out _).mono ?_
                rintro e wq ⟨rfl, rfl⟩
                go_wp2_with fail
                refine (inS 0 1000000000000 g true Dg.out _).mono ?_
                rintro e wq ⟨rfl, rfl⟩
                go_wp2_with fail
                refine (inS 0 2 k true Dk.out _).mono ?_
                rintro e wq ⟨rfl, rfl⟩
                go_wp2
                go_ret
                exact ⟨rfl, HB1.out⟩
              · have Dk : Hid (decide (0 ≤ k ∧ k ≤ 2) = false) := decide_eq_false h8
                obtain rfl : B = false := pm_no (p := ⟨3, n, d, r, 0, b, g, k⟩) hB (fun h => by unfold Pm.ok ratR at h; dsimp only at h; omega)
                clear hB h2 h2' h4 h6 h7 h8 hk1
                go_enter Tryz.func94, Tryz.ntmps94
                go_wp2_with fail
                refine (inS 0 3 3 true D1.out _).mono ?_
                rintro e wq ⟨rfl, rfl⟩
                go_wp2_with fail
                refine (HR.out _).mono ?_
                rintro e w1 ⟨rfl, hb1⟩
                have HB1 := bq HB0 hb1
                have HK1 : Hid (w1.heap[w.heap.size]? = some (PB 3 n d r 0 b g k)) := row_on HK0.out hb1
                have k1 := box8_cells HK1.out
                clear hb1 HB0 HK0 k0
                rw [Dr.out]
                go_wp2_with fail
                refine (inS 0 5000 0 true Dl.out _).mono ?_
                rintro e wq ⟨rfl, rfl⟩
                go_wp2_with fail
                refine (inS 0 100 b true Db.out _).mono ?_
                rintro e wq ⟨rfl, rfl⟩
                go_wp2_with fail
                refine (inS 0 1000000000000 g true Dg.out _).mono ?_
                rintro e wq ⟨rfl, rfl⟩
                go_wp2_with fail
                refine (inS 0 2 k false Dk.out _).mono ?_
                rintro e wq ⟨rfl, rfl⟩
                go_wp2
                go_ret
                exact ⟨rfl, HB1.out⟩
            · have Dg : Hid (decide (0 ≤ g ∧ g ≤ 1000000000000) = false) := decide_eq_false h7
              obtain rfl : B = false := pm_no (p := ⟨3, n, d, r, 0, b, g, k⟩) hB (fun h => by unfold Pm.ok ratR at h; dsimp only at h; omega)
              clear hB h2 h2' h4 h6 h7 hk1
              go_enter Tryz.func94, Tryz.ntmps94
              go_wp2_with fail
              refine (inS 0 3 3 true D1.out _).mono ?_
              rintro e wq ⟨rfl, rfl⟩
              go_wp2_with fail
              refine (HR.out _).mono ?_
              rintro e w1 ⟨rfl, hb1⟩
              have HB1 := bq HB0 hb1
              have HK1 : Hid (w1.heap[w.heap.size]? = some (PB 3 n d r 0 b g k)) := row_on HK0.out hb1
              have k1 := box8_cells HK1.out
              clear hb1 HB0 HK0 k0
              rw [Dr.out]
              go_wp2_with fail
              refine (inS 0 5000 0 true Dl.out _).mono ?_
              rintro e wq ⟨rfl, rfl⟩
              go_wp2_with fail
              refine (inS 0 100 b true Db.out _).mono ?_
              rintro e wq ⟨rfl, rfl⟩
              go_wp2_with fail
              refine (inS 0 1000000000000 g false Dg.out _).mono ?_
              rintro e wq ⟨rfl, rfl⟩
              go_wp2
              go_ret
              exact ⟨rfl, HB1.out⟩
          · have Db : Hid (decide (0 ≤ b ∧ b ≤ 100) = false) := decide_eq_false h6
            obtain rfl : B = false := pm_no (p := ⟨3, n, d, r, 0, b, g, k⟩) hB (fun h => by unfold Pm.ok ratR at h; dsimp only at h; omega)
            clear hB h2 h2' h4 h6 hk1
            go_enter Tryz.func94, Tryz.ntmps94
            go_wp2_with fail
            refine (inS 0 3 3 true D1.out _).mono ?_
            rintro e wq ⟨rfl, rfl⟩
            go_wp2_with fail
            refine (HR.out _).mono ?_
            rintro e w1 ⟨rfl, hb1⟩
            have HB1 := bq HB0 hb1
            have HK1 : Hid (w1.heap[w.heap.size]? = some (PB 3 n d r 0 b g k)) := row_on HK0.out hb1
            have k1 := box8_cells HK1.out
            clear hb1 HB0 HK0 k0
            rw [Dr.out]
            go_wp2_with fail
            refine (inS 0 5000 0 true Dl.out _).mono ?_
            rintro e wq ⟨rfl, rfl⟩
            go_wp2_with fail
            refine (inS 0 100 b false Db.out _).mono ?_
            rintro e wq ⟨rfl, rfl⟩
            go_wp2
            go_ret
            exact ⟨rfl, HB1.out⟩
      · have Dl : Hid (decide (0 ≤ l ∧ l ≤ 5000) = false) := decide_eq_false h4
        obtain rfl : B = false := pm_no (p := ⟨3, n, d, r, l, b, g, k⟩) hB (fun h => by unfold Pm.ok ratR at h; dsimp only at h; omega)
        clear hB h2 h2' h4 hk1
        go_enter Tryz.func94, Tryz.ntmps94
        go_wp2_with fail
        refine (inS 0 3 3 true D1.out _).mono ?_
        rintro e wq ⟨rfl, rfl⟩
        go_wp2_with fail
        refine (HR.out _).mono ?_
        rintro e w1 ⟨rfl, hb1⟩
        have HB1 := bq HB0 hb1
        have HK1 : Hid (w1.heap[w.heap.size]? = some (PB 3 n d r l b g k)) := row_on HK0.out hb1
        have k1 := box8_cells HK1.out
        clear hb1 HB0 HK0 k0
        rw [Dr.out]
        go_wp2_with fail
        refine (inS 0 5000 l false Dl.out _).mono ?_
        rintro e wq ⟨rfl, rfl⟩
        go_wp2
        go_ret
        exact ⟨rfl, HB1.out⟩
    · obtain rfl : B = false := pm_no (p := ⟨3, n, d, r, l, b, g, k⟩) hB (fun h => by unfold Pm.ok ratR at h; dsimp only at h; omega)
      clear hB h2 h2' hk1
      go_enter Tryz.func94, Tryz.ntmps94
      go_wp2_with fail
      refine (inS 0 3 3 true D1.out _).mono ?_
      rintro e wq ⟨rfl, rfl⟩
      go_wp2_with fail
      refine (HR.out _).mono ?_
      rintro e w1 ⟨rfl, hb1⟩
      have HB1 := bq HB0 hb1
      have HK1 : Hid (w1.heap[w.heap.size]? = some (PB 3 n d r l b g k)) := row_on HK0.out hb1
      have k1 := box8_cells HK1.out
      clear hb1 HB0 HK0 k0
      rw [Dr.out]
      go_wp2
      go_ret
      exact ⟨rfl, HB1.out⟩
  · have Dr : Hid (rateOk n d r = false) := rat_no h2
    obtain rfl : B = false := pm_no (p := ⟨3, n, d, r, l, b, g, k⟩) hB (fun h => by unfold Pm.ok at h; dsimp only at h; exact h2 h.2.1)
    clear hB h2 hk1
    go_enter Tryz.func94, Tryz.ntmps94
    go_wp2_with fail
    refine (inS 0 3 3 true D1.out _).mono ?_
    rintro e wq ⟨rfl, rfl⟩
    go_wp2_with fail
    refine (HR.out _).mono ?_
    rintro e w1 ⟨rfl, hb1⟩
    have HB1 := bq HB0 hb1
    have HK1 : Hid (w1.heap[w.heap.size]? = some (PB 3 n d r l b g k)) := row_on HK0.out hb1
    have k1 := box8_cells HK1.out
    clear hb1 HB0 HK0 k0
    rw [Dr.out]
    go_wp2
    go_ret
    exact ⟨rfl, HB1.out⟩
theorem pumpokS_so (s n d r l b g k : Int) (hs1 : ¬ s = 1) (hs3 : ¬ s = 3) (B : Bool) (hB : B = true ↔ Pm.ok ⟨s, n, d, r, l, b, g, k⟩) (w : World) : Calls Tryz.prog 94 #[PV s n d r l b g k] w fun e w' => e = .returned (.bool B) ∧ Below w.heap.size w w' := by
  have HB0 : Hid (Below w.heap.size w (w.alloc (PB s n d r l b g k))) := alP _ _
  have HK0 : Hid ((w.alloc (PB s n d r l b g k)).heap[w.heap.size]? = some (PB s n d r l b g k)) := heap_new w _
  have k0 := box8_cells HK0.out
  have HR : Hid (∀ w, Calls Tryz.prog 150 #[.agg #[.int .i64 n, .int .i64 d, .int .i64 r]] w fun e w' => e = .returned (.bool (rateOk n d r)) ∧ Below w.heap.size w w') := fun w => rateS n d r w
  have q1 : (s == 1) = false := by simpa using hs1
  have q3 : (s == 3) = false := by simpa using hs3
  by_cases h1 : 0 ≤ s ∧ s ≤ 3
  · have D1 : Hid (decide (0 ≤ s ∧ s ≤ 3) = true) := decide_eq_true h1
    by_cases h2 : ratR n d r
    · have Dr : Hid (rateOk n d r = true) := rat_yes h2
      have h2' := h2
      unfold ratR at h2'
      have hw : IntKind.i64.wrap (3 * d) = 3 * d := by rw [IntKind.wrap_i64]; omega
      by_cases h3 : n ≤ 3 * d
      · have _t := trivial
        by_cases h4 : 0 ≤ l ∧ l ≤ 5000
        · have Dl : Hid (decide (0 ≤ l ∧ l ≤ 5000) = true) := decide_eq_true h4
          by_cases h5 : 0 < l
          · obtain rfl : B = false := pm_no (p := ⟨s, n, d, r, l, b, g, k⟩) hB (fun h => by unfold Pm.ok ratR at h; dsimp only at h; omega)
            clear hB h1 h2 h2' h4 hs1 hs3
            go_enter Tryz.func94, Tryz.ntmps94
            go_wp2_with fail
            refine (inS 0 3 s true D1.out _).mono ?_
            rintro e wq ⟨rfl, rfl⟩
            go_wp2_with fail
            refine (HR.out _).mono ?_
            rintro e w1 ⟨rfl, hb1⟩
            have HB1 := bq HB0 hb1
            have HK1 : Hid (w1.heap[w.heap.size]? = some (PB s n d r l b g k)) := row_on HK0.out hb1
            have k1 := box8_cells HK1.out
            clear hb1 HB0 HK0 k0
            rw [Dr.out]
            go_wp2_with fail
            refine (inS 0 5000 l true Dl.out _).mono ?_
            rintro e wq ⟨rfl, rfl⟩
            go_wp2
            go_ret
            exact ⟨rfl, HB1.out⟩
          · obtain rfl : l = 0 := by omega
            clear h5
            by_cases h6 : 0 ≤ b ∧ b ≤ 100
            · have Db : Hid (decide (0 ≤ b ∧ b ≤ 100) = true) := decide_eq_true h6
              by_cases h7 : 0 ≤ g ∧ g ≤ 1000000000000
              · have Dg : Hid (decide (0 ≤ g ∧ g ≤ 1000000000000) = true) := decide_eq_true h7
                by_cases h8 : 0 ≤ k ∧ k ≤ 2
                · have Dk : Hid (decide (0 ≤ k ∧ k ≤ 2) = true) := decide_eq_true h8
                  by_cases h9 : k = 0
                  · have qk0 : (k == 0) = true := by simpa using h9
                    obtain rfl : B = true := pm_yes (p := ⟨s, n, d, r, 0, b, g, k⟩) hB (by unfold Pm.ok; dsimp only; exact ⟨by omega, h2, by omega, by omega, by omega, by omega, by omega, by omega, by omega⟩)
                    clear hB h1 h2 h2' h4 h6 h7 h8 h9 hs1 hs3
                    go_enter Tryz.func94, Tryz.ntmps94
                    go_wp2_with fail
                    refine (inS 0 3 s true D1.out _).mono ?_
                    rintro e wq ⟨rfl, rfl⟩
                    go_wp2_with fail
                    refine (HR.out _).mono ?_
                    rintro e w1 ⟨rfl, hb1⟩
                    have HB1 := bq HB0 hb1
                    have HK1 : Hid (w1.heap[w.heap.size]? = some (PB s n d r 0 b g k)) := row_on HK0.out hb1
                    have k1 := box8_cells HK1.out
                    clear hb1 HB0 HK0 k0
                    rw [Dr.out]
                    go_wp2_with fail
                    refine (inS 0 5000 0 true Dl.out _).mono ?_
                    rintro e wq ⟨rfl, rfl⟩
                    go_wp2_with fail
                    refine (inS 0 100 b true Db.out _).mono ?_
                    rintro e wq ⟨rfl, rfl⟩
                    go_wp2_with fail
                    refine (inS 0 1000000000000 g true Dg.out _).mono ?_
                    rintro e wq ⟨rfl, rfl⟩
                    go_wp2_with fail
                    refine (inS 0 2 k true Dk.out _).mono ?_
                    rintro e wq ⟨rfl, rfl⟩
                    go_wp2
                    go_ret
                    exact ⟨rfl, HB1.out⟩
                  · have qk0 : (k == 0) = false := by simpa using h9
                    obtain rfl : B = false := pm_no (p := ⟨s, n, d, r, 0, b, g, k⟩) hB (fun h => by unfold Pm.ok ratR at h; dsimp only at h; omega)
                    clear hB h1 h2 h2' h4 h6 h7 h8 h9 hs1 hs3
                    go_enter Tryz.func94, Tryz.ntmps94
                    go_wp2_with fail
                    refine (inS 0 3 s true D1.out _).mono ?_
                    rintro e wq ⟨rfl, rfl⟩
                    go_wp2_with fail
                    refine (HR.out _).mono ?_
                    rintro e w1 ⟨rfl, hb1⟩
                    have HB1 := bq HB0 hb1
                    have HK1 : Hid (w1.heap[w.heap.size]? = some (PB s n d r 0 b g k)) := row_on HK0.out hb1
                    have k1 := box8_cells HK1.out
                    clear hb1 HB0 HK0 k0
                    rw [Dr.out]
                    go_wp2_with fail
                    refine (inS 0 5000 0 true Dl.out _).mono ?_
                    rintro e wq ⟨rfl, rfl⟩
                    go_wp2_with fail
                    refine (inS 0 100 b true Db.out _).mono ?_
                    rintro e wq ⟨rfl, rfl⟩
                    go_wp2_with fail
                    refine (inS 0 1000000000000 g true Dg.out _).mono ?_
                    rintro e wq ⟨rfl, rfl⟩
                    go_wp2_with fail
                    refine (inS 0 2 k true Dk.out _).mono ?_
                    rintro e wq ⟨rfl, rfl⟩
                    go_wp2
                    go_ret
                    exact ⟨rfl, HB1.out⟩
                · have Dk : Hid (decide (0 ≤ k ∧ k ≤ 2) = false) := decide_eq_false h8
                  obtain rfl : B = false := pm_no (p := ⟨s, n, d, r, 0, b, g, k⟩) hB (fun h => by unfold Pm.ok ratR at h; dsimp only at h; omega)
                  clear hB h1 h2 h2' h4 h6 h7 h8 hs1 hs3
                  go_enter Tryz.func94, Tryz.ntmps94
                  go_wp2_with fail
                  refine (inS 0 3 s true D1.out _).mono ?_
                  rintro e wq ⟨rfl, rfl⟩
                  go_wp2_with fail
                  refine (HR.out _).mono ?_
                  rintro e w1 ⟨rfl, hb1⟩
                  have HB1 := bq HB0 hb1
                  have HK1 : Hid (w1.heap[w.heap.size]? = some (PB s n d r 0 b g k)) := row_on HK0.out hb1
                  have k1 := box8_cells HK1.out
                  clear hb1 HB0 HK0 k0
                  rw [Dr.out]
                  go_wp2_with fail
                  refine (inS 0 5000 0 true Dl.out _).mono ?_
                  rintro e wq ⟨rfl, rfl⟩
                  go_wp2_with fail
                  refine (inS 0 100 b true Db.out _).mono ?_
                  rintro e wq ⟨rfl, rfl⟩
                  go_wp2_with fail
                  refine (inS 0 1000000000000 g true Dg.out _).mono ?_
                  rintro e wq ⟨rfl, rfl⟩
                  go_wp2_with fail
                  refine (inS 0 2 k false Dk.out _).mono ?_
                  rintro e wq ⟨rfl, rfl⟩
                  go_wp2
                  go_ret
                  exact ⟨rfl, HB1.out⟩
              · have Dg : Hid (decide (0 ≤ g ∧ g ≤ 1000000000000) = false) := decide_eq_false h7
                obtain rfl : B = false := pm_no (p := ⟨s, n, d, r, 0, b, g, k⟩) hB (fun h => by unfold Pm.ok ratR at h; dsimp only at h; omega)
                clear hB h1 h2 h2' h4 h6 h7 hs1 hs3
                go_enter Tryz.func94, Tryz.ntmps94
                go_wp2_with fail
                refine (inS 0 3 s true D1.out _).mono ?_
                rintro e wq ⟨rfl, rfl⟩
                go_wp2_with fail
                refine (HR.out _).mono ?_
                rintro e w1 ⟨rfl, hb1⟩
                have HB1 := bq HB0 hb1
                have HK1 : Hid (w1.heap[w.heap.size]? = some (PB s n d r 0 b g k)) := row_on HK0.out hb1
                have k1 := box8_cells HK1.out
                clear hb1 HB0 HK0 k0
                rw [Dr.out]
                go_wp2_with fail
                refine (inS 0 5000 0 true Dl.out _).mono ?_
                rintro e wq ⟨rfl, rfl⟩
                go_wp2_with fail
                refine (inS 0 100 b true Db.out _).mono ?_
                rintro e wq ⟨rfl, rfl⟩
                go_wp2_with fail
                refine (inS 0 1000000000000 g false Dg.out _).mono ?_
                rintro e wq ⟨rfl, rfl⟩
                go_wp2
                go_ret
                exact ⟨rfl, HB1.out⟩
            · have Db : Hid (decide (0 ≤ b ∧ b ≤ 100) = false) := decide_eq_false h6
              obtain rfl : B = false := pm_no (p := ⟨s, n, d, r, 0, b, g, k⟩) hB (fun h => by unfold Pm.ok ratR at h; dsimp only at h; omega)
              clear hB h1 h2 h2' h4 h6 hs1 hs3
              go_enter Tryz.func94, Tryz.ntmps94
              go_wp2_with fail
              refine (inS 0 3 s true D1.out _).mono ?_
              rintro e wq ⟨rfl, rfl⟩
              go_wp2_with fail
              refine (HR.out _).mono ?_
              rintro e w1 ⟨rfl, hb1⟩
              have HB1 := bq HB0 hb1
              have HK1 : Hid (w1.heap[w.heap.size]? = some (PB s n d r 0 b g k)) := row_on HK0.out hb1
              have k1 := box8_cells HK1.out
              clear hb1 HB0 HK0 k0
              rw [Dr.out]
              go_wp2_with fail
              refine (inS 0 5000 0 true Dl.out _).mono ?_
              rintro e wq ⟨rfl, rfl⟩
              go_wp2_with fail
              refine (inS 0 100 b false Db.out _).mono ?_
              rintro e wq ⟨rfl, rfl⟩
              go_wp2
              go_ret
              exact ⟨rfl, HB1.out⟩
        · have Dl : Hid (decide (0 ≤ l ∧ l ≤ 5000) = false) := decide_eq_false h4
          obtain rfl : B = false := pm_no (p := ⟨s, n, d, r, l, b, g, k⟩) hB (fun h => by unfold Pm.ok ratR at h; dsimp only at h; omega)
          clear hB h1 h2 h2' h4 hs1 hs3
          go_enter Tryz.func94, Tryz.ntmps94
          go_wp2_with fail
          refine (inS 0 3 s true D1.out _).mono ?_
          rintro e wq ⟨rfl, rfl⟩
          go_wp2_with fail
          refine (HR.out _).mono ?_
          rintro e w1 ⟨rfl, hb1⟩
          have HB1 := bq HB0 hb1
          have HK1 : Hid (w1.heap[w.heap.size]? = some (PB s n d r l b g k)) := row_on HK0.out hb1
          have k1 := box8_cells HK1.out
          clear hb1 HB0 HK0 k0
          rw [Dr.out]
          go_wp2_with fail
          refine (inS 0 5000 l false Dl.out _).mono ?_
          rintro e wq ⟨rfl, rfl⟩
          go_wp2
          go_ret
          exact ⟨rfl, HB1.out⟩
      · obtain rfl : B = false := pm_no (p := ⟨s, n, d, r, l, b, g, k⟩) hB (fun h => by unfold Pm.ok ratR at h; dsimp only at h; omega)
        clear hB h1 h2 h2' hs1 hs3
        go_enter Tryz.func94, Tryz.ntmps94
        go_wp2_with fail
        refine (inS 0 3 s true D1.out _).mono ?_
        rintro e wq ⟨rfl, rfl⟩
        go_wp2_with fail
        refine (HR.out _).mono ?_
        rintro e w1 ⟨rfl, hb1⟩
        have HB1 := bq HB0 hb1
        have HK1 : Hid (w1.heap[w.heap.size]? = some (PB s n d r l b g k)) := row_on HK0.out hb1
        have k1 := box8_cells HK1.out
        clear hb1 HB0 HK0 k0
        rw [Dr.out]
        go_wp2
        go_ret
        exact ⟨rfl, HB1.out⟩
    · have Dr : Hid (rateOk n d r = false) := rat_no h2
      obtain rfl : B = false := pm_no (p := ⟨s, n, d, r, l, b, g, k⟩) hB (fun h => by unfold Pm.ok at h; dsimp only at h; exact h2 h.2.1)
      clear hB h1 h2 hs1 hs3
      go_enter Tryz.func94, Tryz.ntmps94
      go_wp2_with fail
      refine (inS 0 3 s true D1.out _).mono ?_
      rintro e wq ⟨rfl, rfl⟩
      go_wp2_with fail
      refine (HR.out _).mono ?_
      rintro e w1 ⟨rfl, hb1⟩
      have HB1 := bq HB0 hb1
      have HK1 : Hid (w1.heap[w.heap.size]? = some (PB s n d r l b g k)) := row_on HK0.out hb1
      have k1 := box8_cells HK1.out
      clear hb1 HB0 HK0 k0
      rw [Dr.out]
      go_wp2
      go_ret
      exact ⟨rfl, HB1.out⟩
  · have D1 : Hid (decide (0 ≤ s ∧ s ≤ 3) = false) := decide_eq_false h1
    obtain rfl : B = false := pm_no (p := ⟨s, n, d, r, l, b, g, k⟩) hB (fun h => by unfold Pm.ok ratR at h; dsimp only at h; omega)
    clear hB h1 hs1 hs3
    go_enter Tryz.func94, Tryz.ntmps94
    go_wp2_with fail
    refine (inS 0 3 s false D1.out _).mono ?_
    rintro e wq ⟨rfl, rfl⟩
    go_wp2
    go_ret
    exact ⟨rfl, HB0.out⟩
theorem pumpokS (p : Pm) (B : Bool) (hB : B = true ↔ p.ok) (w : World) : Calls Tryz.prog 94 #[p.V] w fun e w' => e = .returned (.bool B) ∧ Below w.heap.size w w' := by
  obtain ⟨s, n, d, r, l, b, g, k⟩ := p
  by_cases h1 : s = 1
  · subst h1; exact pumpokS_s1 n d r l b g k B hB w
  by_cases h3 : s = 3
  · subst h3
    by_cases hk : k = 1
    · subst hk; exact pumpokS_s31 n d r l b g B hB w
    · exact pumpokS_s3n n d r l b g k hk B hB w
  exact pumpokS_so s n d r l b g k h1 h3 B hB w
end Go.Proofs.YtfhhnelffldggaaGreatDoor
