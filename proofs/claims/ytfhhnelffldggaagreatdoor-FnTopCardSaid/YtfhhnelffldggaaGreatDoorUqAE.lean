/-
  Lists of numbers that a call owns, and lists of numbers that are read.
-/
import Derived.Test.YtfhhnelffldggaaGreatDoorUqAB
import Derived.Laws.Rows
import Derived.Laws.CopyOwn
import Derived.Deep.OwnRows
import Derived.Deep.WholeRow
import Derived.Test.YtfhhnelffldggaaGreatDoorUqAD
set_option maxRecDepth 100000
set_option maxHeartbeats 16000000
namespace Go.Proofs.YtfhhnelffldggaaGreatDoor
open Go.RowKit Go.PlainAid
set_option linter.unusedVariables false
theorem info3 : (Tryz.prog.info? 3).map (fun i => (i.zero, i.size, i.bytes)) = some (some (.int .i64 0), 1, 8) := by kernel_rfl
def intsV (l : List Int) : List Value := l.map (Value.int .i64)
theorem laid_ints (w : World) (l : List Int) (j : Nat) (hj : j < l.length) : (w.alloc (.cells (l.map (Value.int .i64)).toArray 3)).cell? ⟨w.heap.size, j, none⟩ = some (.int .i64 l[j]) := by
  rw [cell_of_row _ w.heap.size j _ 3 (0, 0) (heap_alloc_new w _)]
  simp [hj]
theorem size3 : (Tryz.prog.info? 3).map (·.size) = some 1 := by kernel_rfl
theorem intsV_len (l : List Int) : (intsV l).length = l.length := List.length_map ..
theorem intsV_at {l : List Int} {j : Nat} {v : Value} (h : (intsV l)[j]? = some v) : ∃ hj : j < l.length, v = .int .i64 l[j] := by
  have hj : j < l.length := by
    have := (List.getElem?_eq_some_iff.1 h).1
    rw [intsV_len] at this; exact this
  refine ⟨hj, ?_⟩
  simp [intsV, hj] at h
  exact h.symm
theorem intsV_one {l : List Int} : ∀ v ∈ intsV l, v.oneCell' = true := by
  intro v hv
  simp [intsV] at hv
  obtain ⟨x, _, rfl⟩ := hv
  rfl
theorem intsV_set {l : List Int} {j : Nat} {x : Int} : (intsV l).set j (.int .i64 x) = intsV (l.set j x) := by
  unfold intsV; rw [List.map_set]
def Rd (w : World) (a : Option Addr) (l : List Int) : Prop := 0 < l.length → ∃ g off, a = some ⟨g, off, none⟩ ∧ ∀ j (h : j < l.length), w.cell? ⟨g, off + j, none⟩ = some (.int .i64 l[j])
theorem Rd.keep {w w' : World} {a : Option Addr} {l : List Int} {B : Nat} (h : Rd w a l) (hb : Below B w w') (hB : w.heap.size ≤ B) : Rd w' a l := fun h0 => by
  obtain ⟨g, off, ha, hc⟩ := h h0
  exact ⟨g, off, ha, fun j hj => (hb.cell (p := ⟨g, off + j, none⟩) (Nat.lt_of_lt_of_le (World.block_lt_of_cell? w ⟨g, off + j, none⟩ (hc j hj)) hB)).trans (hc j hj)⟩
def RowAt (w : World) (g : Nat) (l : List Int) : Prop := w.heap[g]? = some (.cells (intsV l).toArray 3 (0, 0))
theorem RowAt.lt {w : World} {g : Nat} {l : List Int} (h : RowAt w g l) : g < w.heap.size := by
  rcases Nat.lt_or_ge g w.heap.size with h' | h'
  · exact h'
  · unfold RowAt at h; rw [Array.getElem?_eq_none h'] at h; cases h
theorem RowAt.keep {w w' : World} {g B : Nat} {l : List Int} (h : RowAt w g l) (hb : Below B w w') (hg : g < B) : RowAt w' g l := by
  unfold RowAt; rw [hb.block g hg]; exact h
theorem RowAt.cell {w : World} {g : Nat} {l : List Int} (h : RowAt w g l) (j : Nat) (hj : j < l.length) : w.cell? ⟨g, j, none⟩ = some (.int .i64 l[j]) := by
  rw [cell_of_row w g j _ 3 (0, 0) h]
  simp [intsV, hj]
theorem RowAt.free {w : World} {g : Nat} {l : List Int} (h : RowAt w g l) (j : Nat) : w.frozen? ⟨g, j, none⟩ = false := frozen_of_row w g j _ 3 h
theorem RowAt.rd {w : World} {g : Nat} {l : List Int} (h : RowAt w g l) : Rd w (some ⟨g, 0, none⟩) l := fun _ => ⟨g, 0, rfl, fun j hj => by rw [Nat.zero_add]; exact h.cell j hj⟩
theorem RowAt.set {w : World} {g : Nat} {l : List Int} (h : RowAt w g l) (j : Nat) (x : Int) : RowAt (w.setCell ⟨g, j, none⟩ (.int .i64 x)) g (l.set j x) := by
  unfold RowAt at h ⊢
  rw [heap_setCell_same w g j _ 3 (.int .i64 x) h, ← intsV_set]
  simp
theorem RowAt.owns {w : World} {g B : Nat} {l : List Int} (h : RowAt w g l) (hB : B ≤ g) (hl : l.length ≤ maxLen) : w.ownsRow B 3 1 (.slice (some ⟨g, 0, none⟩) l.length l.length) l.length (intsV l) :=
  ⟨by simp [intsV_len], Or.inr ⟨g, l.length, (intsV l).toArray, rfl, hB, h, Nat.le_refl _, hl, by simp [intsV_len], by simp; exact List.take_of_length_le (by rw [intsV_len]; exact Nat.le_refl _)⟩⟩
theorem own_rd {w : World} {B n : Nat} {v : Value} {l : List Int} (h : w.ownsRow B 3 1 v n (intsV l)) : ∃ a cap, v = .slice a n cap ∧ n ≤ cap ∧ l.length = n ∧ Rd w a l := by
  have h' := h
  have hl : l.length = n := by have := h.1; rw [intsV_len] at this; omega
  rcases h.2 with ⟨rfl, e⟩ | ⟨g, cap, cur, rfl, hg, hh, hnc, hcp, hcs, htake⟩
  · exact ⟨none, 0, by rw [e], by omega, hl, fun h0 => by omega⟩
  · refine ⟨_, cap, rfl, hnc, hl, fun _ => ⟨g, 0, rfl, fun j hj => ?_⟩⟩
    rw [Nat.zero_add, h'.cellAt j (by omega)]
    simp [intsV, hj]
set_option linter.unusedSimpArgs false
theorem pumpokS_s31 (n d r l b g : Int)  (B : Bool) (hB : B = true ↔ Pm.ok ⟨3, n, d, r, l, b, g, 1⟩) (w : World) : Calls Tryz.prog 94 #[PV 3 n d r l b g 1] w fun e w' => e = .returned (.bool B) ∧ Below w.heap.size w w' := by
  have HB0 : Hid (Below w.heap.size w (w.alloc (PB 3 n d r l b g 1))) := alP _ _
  have HK0 : Hid ((w.alloc (PB 3 n d r l b g 1)).heap[w.heap.size]? = some (PB 3 n d r l b g 1)) := heap_new w _
  have k0 := box8_cells HK0.out
  have HR : Hid (∀ w, Calls Tryz.prog 150 #[.agg #[.int .i64 n, .int .i64 d, .int .i64 r]] w fun e w' => e = .returned (.bool (rateOk n d r)) ∧ Below w.heap.size w w') := fun w => rateS n d r w
  have D1 : Hid (decide ((0 : Int) ≤ 3 ∧ (3 : Int) ≤ 3) = true) := rfl
  by_cases h2 : ratR n d r
  · have Dr : Hid (rateOk n d r = true) := rat_yes h2
    have h2' := h2
    unfold ratR at h2'
    have hw : IntKind.i64.wrap (3 * d) = 3 * d := by rw [IntKind.wrap_i64]; omega
    by_cases h3 : n ≤ 3 * d
    · have _t := trivial
      by_cases h4 : 0 ≤ l ∧ l ≤ 5000
      · have Dl : Hid (decide (0 ≤ l ∧ l ≤ 5000) = true) := decide_eq_true h4
        by_cases h5 : 0 < l
        · have _t := trivial
          by_cases h6 : 0 ≤ b ∧ b ≤ 100
          · have Db : Hid (decide (0 ≤ b ∧ b ≤ 100) = true) := decide_eq_true h6
            by_cases h7 : 0 ≤ g ∧ g ≤ 1000000000000
            · have Dg : Hid (decide (0 ≤ g ∧ g ≤ 1000000000000) = true) := decide_eq_true h7
              have Dk : Hid (decide ((0 : Int) ≤ 1 ∧ (1 : Int) ≤ 2) = true) := rfl
              obtain rfl : B = true := pm_yes (p := ⟨3, n, d, r, l, b, g, 1⟩) hB (by unfold Pm.ok; dsimp only; exact ⟨by omega, h2, by omega, by omega, by omega, by omega, by omega, by omega, by omega⟩)
              clear hB h2 h2' h4 h6 h7
              go_enter Tryz.func94, Tryz.ntmps94
              go_wp2_with fail
              refine (inS 0 3 3 true D1.out _).mono ?_
              rintro e wq ⟨rfl, rfl⟩
              go_wp2_with fail
              refine (HR.out _).mono ?_
              rintro e w1 ⟨rfl, hb1⟩
              have HB1 := bq HB0 hb1
              have HK1 := rq HK0 hb1
              have k1 := box8_cells HK1.out
              clear hb1 HB0 HK0 k0
              rw [Dr.out]
              go_wp2_with fail
              refine (inS 0 5000 l true Dl.out _).mono ?_
              rintro e wq ⟨rfl, rfl⟩
              go_wp2_with fail
              refine (inS 0 100 b true Db.out _).mono ?_
              rintro e wq ⟨rfl, rfl⟩
              go_wp2_with fail
              refine (inS 0 1000000000000 g true Dg.out _).mono ?_
              rintro e wq ⟨rfl, rfl⟩
              go_wp2_with fail
              refine (inS 0 2 1 true Dk.out _).mono ?_
              rintro e wq ⟨rfl, rfl⟩
              go_wp2
              go_ret
              exact ⟨rfl, HB1.out⟩
            · have Dg : Hid (decide (0 ≤ g ∧ g ≤ 1000000000000) = false) := decide_eq_false h7
              obtain rfl : B = false := pm_no (p := ⟨3, n, d, r, l, b, g, 1⟩) hB (fun h => by unfold Pm.ok ratR at h; dsimp only at h; omega)
              clear hB h2 h2' h4 h6 h7
              go_enter Tryz.func94, Tryz.ntmps94
              go_wp2_with fail
              refine (inS 0 3 3 true D1.out _).mono ?_
              rintro e wq ⟨rfl, rfl⟩
              go_wp2_with fail
              refine (HR.out _).mono ?_
              rintro e w1 ⟨rfl, hb1⟩
              have HB1 := bq HB0 hb1
              have HK1 := rq HK0 hb1
              have k1 := box8_cells HK1.out
              clear hb1 HB0 HK0 k0
              rw [Dr.out]
              go_wp2_with fail
              refine (inS 0 5000 l true Dl.out _).mono ?_
              rintro e wq ⟨rfl, rfl⟩
              go_wp2_with fail
              refine (inS 0 100 b true Db.out _).mono ?_
              rintro e wq ⟨rfl, rfl⟩
              go_wp2_with fail
              refine (inS 0 1000000000000 g false Dg.out _).mono ?_
              rintro e wq ⟨rfl, rfl⟩
              go_wp2
              go_ret
              exact ⟨rfl, HB1.out⟩
          · have Db : Hid (decide (0 ≤ b ∧ b ≤ 100) = false) := decide_eq_false h6
            obtain rfl : B = false := pm_no (p := ⟨3, n, d, r, l, b, g, 1⟩) hB (fun h => by unfold Pm.ok ratR at h; dsimp only at h; omega)
            clear hB h2 h2' h4 h6
            go_enter Tryz.func94, Tryz.ntmps94
            go_wp2_with fail
            refine (inS 0 3 3 true D1.out _).mono ?_
            rintro e wq ⟨rfl, rfl⟩
            go_wp2_with fail
            refine (HR.out _).mono ?_
            rintro e w1 ⟨rfl, hb1⟩
            have HB1 := bq HB0 hb1
            have HK1 := rq HK0 hb1
            have k1 := box8_cells HK1.out
            clear hb1 HB0 HK0 k0
            rw [Dr.out]
            go_wp2_with fail
            refine (inS 0 5000 l true Dl.out _).mono ?_
            rintro e wq ⟨rfl, rfl⟩
            go_wp2_with fail
            refine (inS 0 100 b false Db.out _).mono ?_
            rintro e wq ⟨rfl, rfl⟩
            go_wp2
            go_ret
            exact ⟨rfl, HB1.out⟩
        · obtain rfl : l = 0 := by omega
          obtain rfl : B = false := pm_no (p := ⟨3, n, d, r, 0, b, g, 1⟩) hB (fun h => by unfold Pm.ok ratR at h; dsimp only at h; omega)
          clear hB h2 h2' h4 h5
          go_enter Tryz.func94, Tryz.ntmps94
          go_wp2_with fail
          refine (inS 0 3 3 true D1.out _).mono ?_
          rintro e wq ⟨rfl, rfl⟩
          go_wp2_with fail
          refine (HR.out _).mono ?_
          rintro e w1 ⟨rfl, hb1⟩
          have HB1 := bq HB0 hb1
          have HK1 := rq HK0 hb1
          have k1 := box8_cells HK1.out
          clear hb1 HB0 HK0 k0
          rw [Dr.out]
          go_wp2_with fail
          refine (inS 0 5000 0 true Dl.out _).mono ?_
          rintro e wq ⟨rfl, rfl⟩
          go_wp2
          go_ret
          exact ⟨rfl, HB1.out⟩
      · have Dl : Hid (decide (0 ≤ l ∧ l ≤ 5000) = false) := decide_eq_false h4
        obtain rfl : B = false := pm_no (p := ⟨3, n, d, r, l, b, g, 1⟩) hB (fun h => by unfold Pm.ok ratR at h; dsimp only at h; omega)
        clear hB h2 h2' h4
        go_enter Tryz.func94, Tryz.ntmps94
        go_wp2_with fail
        refine (inS 0 3 3 true D1.out _).mono ?_
        rintro e wq ⟨rfl, rfl⟩
        go_wp2_with fail
        refine (HR.out _).mono ?_
        rintro e w1 ⟨rfl, hb1⟩
        have HB1 := bq HB0 hb1
        have HK1 := rq HK0 hb1
        have k1 := box8_cells HK1.out
        clear hb1 HB0 HK0 k0
        rw [Dr.out]
        go_wp2_with fail
        refine (inS 0 5000 l false Dl.out _).mono ?_
        rintro e wq ⟨rfl, rfl⟩
        go_wp2
        go_ret
        exact ⟨rfl, HB1.out⟩
    · obtain rfl : B = false := pm_no (p := ⟨3, n, d, r, l, b, g, 1⟩) hB (fun h => by unfold Pm.ok ratR at h; dsimp only at h; omega)
      clear hB h2 h2'
      go_enter Tryz.func94, Tryz.ntmps94
      go_wp2_with fail
      refine (inS 0 3 3 true D1.out _).mono ?_
      rintro e wq ⟨rfl, rfl⟩
      go_wp2_with fail
      refine (HR.out _).mono ?_
      rintro e w1 ⟨rfl, hb1⟩
      have HB1 := bq HB0 hb1
      have HK1 := rq HK0 hb1
      have k1 := box8_cells HK1.out
      clear hb1 HB0 HK0 k0
      rw [Dr.out]
      go_wp2
      go_ret
      exact ⟨rfl, HB1.out⟩
  · have Dr : Hid (rateOk n d r = false) := rat_no h2
    obtain rfl : B = false := pm_no (p := ⟨3, n, d, r, l, b, g, 1⟩) hB (fun h => by unfold Pm.ok at h; dsimp only at h; exact h2 h.2.1)
    clear hB h2
    go_enter Tryz.func94, Tryz.ntmps94
    go_wp2_with fail
    refine (inS 0 3 3 true D1.out _).mono ?_
    rintro e wq ⟨rfl, rfl⟩
    go_wp2_with fail
    refine (HR.out _).mono ?_
    rintro e w1 ⟨rfl, hb1⟩
    have HB1 := bq HB0 hb1
    have HK1 := rq HK0 hb1
    have k1 := box8_cells HK1.out
    clear hb1 HB0 HK0 k0
    rw [Dr.out]
    go_wp2
    go_ret
    exact ⟨rfl, HB1.out⟩
theorem pumpokS_s3n (n d r l b g k : Int) (hk1 : ¬ k = 1) (B : Bool) (hB : B = true ↔ Pm.ok ⟨3, n, d, r, l, b, g, k⟩) (w : World) : Calls Tryz.prog 94 #[PV 3 n d r l b g k] w fun e w' => e = .returned (.bool B) ∧ Below w.heap.size w w' := by
  have HB0 : Hid (Below w.heap.size w (w.alloc (PB 3 n d r l b g k))) := alP _ _
  have HK0 : Hid ((w.alloc (PB 3 n d r l b g k)).heap[w.heap.size]? = some (PB 3 n d r l b g k)) := heap_new w _
  have k0 := box8_cells HK0.out
  have HR : Hid (∀ w, Calls Tryz.prog 150 #[.agg #[.int .i64 n, .int .i64 d, .int .i64 r]] w fun e w' => e = .returned (.bool (rateOk n d r)) ∧ Below w.heap.size w w') := fun w => rateS n d r w
  have qk : (k == 1) = false := by simpa using hk1
  have D1 : Hid (decide ((0 : Int) ≤ 3 ∧ (3 : Int) ≤ 3) = true) := rfl
  by_cases h2 : ratR n d r
  · have Dr : Hid (rateOk n d r = true) := rat_yes h2
    have h2' := h2
    unfold ratR at h2'
    have hw : IntKind.i64.wrap (3 * d) = 3 * d := by rw [IntKind.wrap_i64]; omega
    by_cases h3 : n ≤ 3 * d
    · have _t := trivial
      by_cases h4 : 0 ≤ l ∧ l ≤ 5000
      · have Dl : Hid (decide (0 ≤ l ∧ l ≤ 5000) = true) := decide_eq_true h4
        by_cases h5 : 0 < l
        · obtain rfl : B = false := pm_no (p := ⟨3, n, d, r, l, b, g, k⟩) hB (fun h => by unfold Pm.ok ratR at h; dsimp only at h; omega)
          clear hB h2 h2' h4 hk1
          go_enter Tryz.func94, Tryz.ntmps94
          go_wp2_with fail
          refine (inS 0 3 3 true D1.out _).mono ?_
          rintro e wq ⟨rfl, rfl⟩
          go_wp2_with fail
          refine (HR.out _).mono ?_
          rintro e w1 ⟨rfl, hb1⟩
          have HB1 := bq HB0 hb1
          have HK1 := rq HK0 hb1
          have k1 := box8_cells HK1.out
          clear hb1 HB0 HK0 k0
          rw [Dr.out]
          go_wp2_with fail
          refine (inS 0 5000 l true Dl.out _).mono ?_
          rintro e wq ⟨rfl, rfl⟩
          go_wp2
          go_ret
          exact ⟨rfl, HB1.out⟩
        · obtain rfl : l = 0 := by omega
          clear h5
          by_cases h6 : 0 ≤ b ∧ b ≤ 100
          · have Db : Hid (decide (0 ≤ b ∧ b ≤ 100) = true) := decide_eq_true h6
            by_cases h7 : 0 ≤ g ∧ g ≤ 1000000000000
            · have Dg : Hid (decide (0 ≤ g ∧ g ≤ 1000000000000) = true) := decide_eq_true h7
              by_cases h8 : 0 ≤ k ∧ k ≤ 2
              · have Dk : Hid (decide (0 ≤ k ∧ k ≤ 2) = true) := decide_eq_true h8
                obtain rfl : B = true := pm_yes (p := ⟨3, n, d, r, 0, b, g, k⟩) hB (by unfold Pm.ok; dsimp only; exact ⟨by omega, h2, by omega, by omega, by omega, by omega, by omega, by omega, by omega⟩)
                clear hB h2 h2' h4 h6 h7 h8 hk1
                go_enter Tryz.func94, Tryz.ntmps94
                go_wp2_with fail
                refine (inS 0 3 3 true D1.out _).mono ?_
                rintro e wq ⟨rfl, rfl⟩
                go_wp2_with fail
                refine (HR.out _).mono ?_
                rintro e w1 ⟨rfl, hb1⟩
                have HB1 := bq HB0 hb1
                have HK1 := rq HK0 hb1
                have k1 := box8_cells HK1.out
                clear hb1 HB0 HK0 k0
                rw [Dr.out]
                go_wp2_with fail
                refine (inS 0 5000 0 true Dl.out _).mono ?_
                rintro e wq ⟨rfl, rfl⟩
                go_wp2_with fail
                refine (inS 0 100 b true Db.out _).mono ?_
                rintro e wq ⟨rfl, rfl⟩
                go_wp2_with fail
                refine (inS 0 1000000000000 g true Dg.out _).mono ?_
                rintro e wq ⟨rfl, rfl⟩
                go_wp2_with fail
                refine (inS 0 2 k true Dk.out _).mono ?_
                rintro e wq ⟨rfl, rfl⟩
                go_wp2
                go_ret
                exact ⟨rfl, HB1.out⟩
              · have Dk : Hid (decide (0 ≤ k ∧ k ≤ 2) = false) := decide_eq_false h8
                obtain rfl : B = false := pm_no (p := ⟨3, n, d, r, 0, b, g, k⟩) hB (fun h => by unfold Pm.ok ratR at h; dsimp only at h; omega)
                clear hB h2 h2' h4 h6 h7 h8 hk1
                go_enter Tryz.func94, Tryz.ntmps94
                go_wp2_with fail
                refine (inS 0 3 3 true D1.out _).mono ?_
                rintro e wq ⟨rfl, rfl⟩
                go_wp2_with fail
                refine (HR.out _).mono ?_
                rintro e w1 ⟨rfl, hb1⟩
                have HB1 := bq HB0 hb1
                have HK1 := rq HK0 hb1
                have k1 := box8_cells HK1.out
                clear hb1 HB0 HK0 k0
                rw [Dr.out]
                go_wp2_with fail
                refine (inS 0 5000 0 true Dl.out _).mono ?_
                rintro e wq ⟨rfl, rfl⟩
                go_wp2_with fail
                refine (inS 0 100 b true Db.out _).mono ?_
                rintro e wq ⟨rfl, rfl⟩
                go_wp2_with fail
                refine (inS 0 1000000000000 g true Dg.out _).mono ?_
                rintro e wq ⟨rfl, rfl⟩
                go_wp2_with fail
                refine (inS 0 2 k false Dk.out _).mono ?_
                rintro e wq ⟨rfl, rfl⟩
                go_wp2
                go_ret
                exact ⟨rfl, HB1.out⟩
            · have Dg : Hid (decide (0 ≤ g ∧ g ≤ 1000000000000) = false) := decide_eq_false h7
              obtain rfl : B = false := pm_no (p := ⟨3, n, d, r, 0, b, g, k⟩) hB (fun h => by unfold Pm.ok ratR at h; dsimp only at h; omega)
              clear hB h2 h2' h4 h6 h7 hk1
              go_enter Tryz.func94, Tryz.ntmps94
              go_wp2_with fail
              refine (inS 0 3 3 true D1.out _).mono ?_
              rintro e wq ⟨rfl, rfl⟩
              go_wp2_with fail
              refine (HR.out _).mono ?_
              rintro e w1 ⟨rfl, hb1⟩
              have HB1 := bq HB0 hb1
              have HK1 := rq HK0 hb1
              have k1 := box8_cells HK1.out
              clear hb1 HB0 HK0 k0
              rw [Dr.out]
              go_wp2_with fail
              refine (inS 0 5000 0 true Dl.out _).mono ?_
              rintro e wq ⟨rfl, rfl⟩
              go_wp2_with fail
              refine (inS 0 100 b true Db.out _).mono ?_
              rintro e wq ⟨rfl, rfl⟩
              go_wp2_with fail
              refine (inS 0 1000000000000 g false Dg.out _).mono ?_
              rintro e wq ⟨rfl, rfl⟩
              go_wp2
              go_ret
              exact ⟨rfl, HB1.out⟩
          · have Db : Hid (decide (0 ≤ b ∧ b ≤ 100) = false) := decide_eq_false h6
            obtain rfl : B = false := pm_no (p := ⟨3, n, d, r, 0, b, g, k⟩) hB (fun h => by unfold Pm.ok ratR at h; dsimp only at h; omega)
            clear hB h2 h2' h4 h6 hk1
            go_enter Tryz.func94, Tryz.ntmps94
            go_wp2_with fail
            refine (inS 0 3 3 true D1.out _).mono ?_
            rintro e wq ⟨rfl, rfl⟩
            go_wp2_with fail
            refine (HR.out _).mono ?_
            rintro e w1 ⟨rfl, hb1⟩
            have HB1 := bq HB0 hb1
            have HK1 := rq HK0 hb1
            have k1 := box8_cells HK1.out
            clear hb1 HB0 HK0 k0
            rw [Dr.out]
            go_wp2_with fail
            refine (inS 0 5000 0 true Dl.out _).mono ?_
            rintro e wq ⟨rfl, rfl⟩
            go_wp2_with fail
            refine (inS 0 100 b false Db.out _).mono ?_
            rintro e wq ⟨rfl, rfl⟩
            go_wp2
            go_ret
            exact ⟨rfl, HB1.out⟩
      · have Dl : Hid (decide (0 ≤ l ∧ l ≤ 5000) = false) := decide_eq_false h4
        obtain rfl : B = false := pm_no (p := ⟨3, n, d, r, l, b, g, k⟩) hB (fun h => by unfold Pm.ok ratR at h; dsimp only at h; omega)
        clear hB h2 h2' h4 hk1
        go_enter Tryz.func94, Tryz.ntmps94
        go_wp2_with fail
        refine (inS 0 3 3 true D1.out _).mono ?_
        rintro e wq ⟨rfl, rfl⟩
        go_wp2_with fail
        refine (HR.out _).mono ?_
        rintro e w1 ⟨rfl, hb1⟩
        have HB1 := bq HB0 hb1
        have HK1 := rq HK0 hb1
        have k1 := box8_cells HK1.out
        clear hb1 HB0 HK0 k0
        rw [Dr.out]
        go_wp2_with fail
        refine (inS 0 5000 l false Dl.out _).mono ?_
        rintro e wq ⟨rfl, rfl⟩
        go_wp2
        go_ret
        exact ⟨rfl, HB1.out⟩
    · obtain rfl : B = false := pm_no (p := ⟨3, n, d, r, l, b, g, k⟩) hB (fun h => by unfold Pm.ok ratR at h; dsimp only at h; omega)
      clear hB h2 h2' hk1
      go_enter Tryz.func94, Tryz.ntmps94
      go_wp2_with fail
      refine (inS 0 3 3 true D1.out _).mono ?_
      rintro e wq ⟨rfl, rfl⟩
      go_wp2_with fail
      refine (HR.out _).mono ?_
      rintro e w1 ⟨rfl, hb1⟩
      have HB1 := bq HB0 hb1
      have HK1 := rq HK0 hb1
      have k1 := box8_cells HK1.out
      clear hb1 HB0 HK0 k0
      rw [Dr.out]
      go_wp2
      go_ret
      exact ⟨rfl, HB1.out⟩
  · have Dr : Hid (rateOk n d r = false) := rat_no h2
    obtain rfl : B = false := pm_no (p := ⟨3, n, d, r, l, b, g, k⟩) hB (fun h => by unfold Pm.ok at h; dsimp only at h; exact h2 h.2.1)
    clear hB h2 hk1
    go_enter Tryz.func94, Tryz.ntmps94
    go_wp2_with fail
    refine (inS 0 3 3 true D1.out _).mono ?_
    rintro e wq ⟨rfl, rfl⟩
    go_wp2_with fail
    refine (HR.out _).mono ?_
    rintro e w1 ⟨rfl, hb1⟩
    have HB1 := bq HB0 hb1
    have HK1 := rq HK0 hb1
    have k1 := box8_cells HK1.out
    clear hb1 HB0 HK0 k0
    rw [Dr.out]
    go_wp2
    go_ret
    exact ⟨rfl, HB1.out⟩
theorem pumpokS_so (s n d r l b g k : Int) (hs1 : ¬ s = 1) (hs3 : ¬ s = 3) (B : Bool) (hB : B = true ↔ Pm.ok ⟨s, n, d, r, l, b, g, k⟩) (w : World) : Calls Tryz.prog 94 #[PV s n d r l b g k] w fun e w' => e = .returned (.bool B) ∧ Below w.heap.size w w' := by
  have HB0 : Hid (Below w.heap.size w (w.alloc (PB s n d r l b g k))) := alP _ _
  have HK0 : Hid ((w.alloc (PB s n d r l b g k)).heap[w.heap.size]? = some (PB s n d r l b g k)) := heap_new w _
  have k0 := box8_cells HK0.out
  have HR : Hid (∀ w, Calls Tryz.prog 150 #[.agg #[.int .i64 n, .int .i64 d, .int .i64 r]] w fun e w' => e = .returned (.bool (rateOk n d r)) ∧ Below w.heap.size w w') := fun w => rateS n d r w
  have q1 : (s == 1) = false := by simpa using hs1
  have q3 : (s == 3) = false := by simpa using hs3
  by_cases h1 : 0 ≤ s ∧ s ≤ 3
  · have D1 : Hid (decide (0 ≤ s ∧ s ≤ 3) = true) := decide_eq_true h1
    by_cases h2 : ratR n d r
    · have Dr : Hid (rateOk n d r = true) := rat_yes h2
      have h2' := h2
      unfold ratR at h2'
      have hw : IntKind.i64.wrap (3 * d) = 3 * d := by rw [IntKind.wrap_i64]; omega
      by_cases h3 : n ≤ 3 * d
      · have _t := trivial
        by_cases h4 : 0 ≤ l ∧ l ≤ 5000
        · have Dl : Hid (decide (0 ≤ l ∧ l ≤ 5000) = true) := decide_eq_true h4
          by_cases h5 : 0 < l
          · obtain rfl : B = false := pm_no (p := ⟨s, n, d, r, l, b, g, k⟩) hB (fun h => by unfold Pm.ok ratR at h; dsimp only at h; omega)
            clear hB h1 h2 h2' h4 hs1 hs3
            go_enter Tryz.func94, Tryz.ntmps94
            go_wp2_with fail
            refine (inS 0 3 s true D1.out _).mono ?_
            rintro e wq ⟨rfl, rfl⟩
            go_wp2_with fail
            refine (HR.out _).mono ?_
            rintro e w1 ⟨rfl, hb1⟩
            have HB1 := bq HB0 hb1
            have HK1 := rq HK0 hb1
            have k1 := box8_cells HK1.out
            clear hb1 HB0 HK0 k0
            rw [Dr.out]
            go_wp2_with fail
            refine (inS 0 5000 l true Dl.out _).mono ?_
            rintro e wq ⟨rfl, rfl⟩
            go_wp2
            go_ret
            exact ⟨rfl, HB1.out⟩
          · obtain rfl : l = 0 := by omega
            clear h5
            by_cases h6 : 0 ≤ b ∧ b ≤ 100
            · have Db : Hid (decide (0 ≤ b ∧ b ≤ 100) = true) := decide_eq_true h6
              by_cases h7 : 0 ≤ g ∧ g ≤ 1000000000000
              · have Dg : Hid (decide (0 ≤ g ∧ g ≤ 1000000000000) = true) := decide_eq_true h7
                by_cases h8 : 0 ≤ k ∧ k ≤ 2
                · have Dk : Hid (decide (0 ≤ k ∧ k ≤ 2) = true) := decide_eq_true h8
                  by_cases h9 : k = 0
                  · have qk0 : (k == 0) = true := by simpa using h9
                    obtain rfl : B = true := pm_yes (p := ⟨s, n, d, r, 0, b, g, k⟩) hB (by unfold Pm.ok; dsimp only; exact ⟨by omega, h2, by omega, by omega, by omega, by omega, by omega, by omega, by omega⟩)
                    clear hB h1 h2 h2' h4 h6 h7 h8 h9 hs1 hs3
                    go_enter Tryz.func94, Tryz.ntmps94
                    go_wp2_with fail
                    refine (inS 0 3 s true D1.out _).mono ?_
                    rintro e wq ⟨rfl, rfl⟩
                    go_wp2_with fail
                    refine (HR.out _).mono ?_
                    rintro e w1 ⟨rfl, hb1⟩
                    have HB1 := bq HB0 hb1
                    have HK1 := rq HK0 hb1
                    have k1 := box8_cells HK1.out
                    clear hb1 HB0 HK0 k0
                    rw [Dr.out]
                    go_wp2_with fail
                    refine (inS 0 5000 0 true Dl.out _).mono ?_
                    rintro e wq ⟨rfl, rfl⟩
                    go_wp2_with fail
                    refine (inS 0 100 b true Db.out _).mono ?_
                    rintro e wq ⟨rfl, rfl⟩
                    go_wp2_with fail
                    refine (inS 0 1000000000000 g true Dg.out _).mono ?_
                    rintro e wq ⟨rfl, rfl⟩
                    go_wp2_with fail
                    refine (inS 0 2 k true Dk.out _).mono ?_
                    rintro e wq ⟨rfl, rfl⟩
                    go_wp2
                    go_ret
                    exact ⟨rfl, HB1.out⟩
                  · have qk0 : (k == 0) = false := by simpa using h9
                    obtain rfl : B = false := pm_no (p := ⟨s, n, d, r, 0, b, g, k⟩) hB (fun h => by unfold Pm.ok ratR at h; dsimp only at h; omega)
                    clear hB h1 h2 h2' h4 h6 h7 h8 h9 hs1 hs3
                    go_enter Tryz.func94, Tryz.ntmps94
                    go_wp2_with fail
                    refine (inS 0 3 s true D1.out _).mono ?_
                    rintro e wq ⟨rfl, rfl⟩
                    go_wp2_with fail
                    refine (HR.out _).mono ?_
                    rintro e w1 ⟨rfl, hb1⟩
                    have HB1 := bq HB0 hb1
                    have HK1 := rq HK0 hb1
                    have k1 := box8_cells HK1.out
                    clear hb1 HB0 HK0 k0
                    rw [Dr.out]
                    go_wp2_with fail
                    refine (inS 0 5000 0 true Dl.out _).mono ?_
                    rintro e wq ⟨rfl, rfl⟩
                    go_wp2_with fail
                    refine (inS 0 100 b true Db.out _).mono ?_
                    rintro e wq ⟨rfl, rfl⟩
                    go_wp2_with fail
                    refine (inS 0 1000000000000 g true Dg.out _).mono ?_
                    rintro e wq ⟨rfl, rfl⟩
                    go_wp2_with fail
                    refine (inS 0 2 k true Dk.out _).mono ?_
                    rintro e wq ⟨rfl, rfl⟩
                    go_wp2
                    go_ret
                    exact ⟨rfl, HB1.out⟩
                · have Dk : Hid (decide (0 ≤ k ∧ k ≤ 2) = false) := decide_eq_false h8
                  obtain rfl : B = false := pm_no (p := ⟨s, n, d, r, 0, b, g, k⟩) hB (fun h => by unfold Pm.ok ratR at h; dsimp only at h; omega)
                  clear hB h1 h2 h2' h4 h6 h7 h8 hs1 hs3
                  go_enter Tryz.func94, Tryz.ntmps94
                  go_wp2_with fail
                  refine (inS 0 3 s true D1.out _).mono ?_
                  rintro e wq ⟨rfl, rfl⟩
                  go_wp2_with fail
                  refine (HR.out _).mono ?_
                  rintro e w1 ⟨rfl, hb1⟩
                  have HB1 := bq HB0 hb1
                  have HK1 := rq HK0 hb1
                  have k1 := box8_cells HK1.out
                  clear hb1 HB0 HK0 k0
                  rw [Dr.out]
                  go_wp2_with fail
                  refine (inS 0 5000 0 true Dl.out _).mono ?_
                  rintro e wq ⟨rfl, rfl⟩
                  go_wp2_with fail
                  refine (inS 0 100 b true Db.out _).mono ?_
                  rintro e wq ⟨rfl, rfl⟩
                  go_wp2_with fail
                  refine (inS 0 1000000000000 g true Dg.out _).mono ?_
                  rintro e wq ⟨rfl, rfl⟩
                  go_wp2_with fail
                  refine (inS 0 2 k false Dk.out _).mono ?_
                  rintro e wq ⟨rfl, rfl⟩
                  go_wp2
                  go_ret
                  exact ⟨rfl, HB1.out⟩
              · have Dg : Hid (decide (0 ≤ g ∧ g ≤ 1000000000000) = false) := decide_eq_false h7
                obtain rfl : B = false := pm_no (p := ⟨s, n, d, r, 0, b, g, k⟩) hB (fun h => by unfold Pm.ok ratR at h; dsimp only at h; omega)
                clear hB h1 h2 h2' h4 h6 h7 hs1 hs3
                go_enter Tryz.func94, Tryz.ntmps94
                go_wp2_with fail
                refine (inS 0 3 s true D1.out _).mono ?_
                rintro e wq ⟨rfl, rfl⟩
                go_wp2_with fail
                refine (HR.out _).mono ?_
                rintro e w1 ⟨rfl, hb1⟩
                have HB1 := bq HB0 hb1
                have HK1 := rq HK0 hb1
                have k1 := box8_cells HK1.out
                clear hb1 HB0 HK0 k0
                rw [Dr.out]
                go_wp2_with fail
                refine (inS 0 5000 0 true Dl.out _).mono ?_
                rintro e wq ⟨rfl, rfl⟩
                go_wp2_with fail
                refine (inS 0 100 b true Db.out _).mono ?_
                rintro e wq ⟨rfl, rfl⟩
                go_wp2_with fail
                refine (inS 0 1000000000000 g false Dg.out _).mono ?_
                rintro e wq ⟨rfl, rfl⟩
                go_wp2
                go_ret
                exact ⟨rfl, HB1.out⟩
            · have Db : Hid (decide (0 ≤ b ∧ b ≤ 100) = false) := decide_eq_false h6
              obtain rfl : B = false := pm_no (p := ⟨s, n, d, r, 0, b, g, k⟩) hB (fun h => by unfold Pm.ok ratR at h; dsimp only at h; omega)
              clear hB h1 h2 h2' h4 h6 hs1 hs3
              go_enter Tryz.func94, Tryz.ntmps94
              go_wp2_with fail
              refine (inS 0 3 s true D1.out _).mono ?_
              rintro e wq ⟨rfl, rfl⟩
              go_wp2_with fail
              refine (HR.out _).mono ?_
              rintro e w1 ⟨rfl, hb1⟩
              have HB1 := bq HB0 hb1
              have HK1 := rq HK0 hb1
              have k1 := box8_cells HK1.out
              clear hb1 HB0 HK0 k0
              rw [Dr.out]
              go_wp2_with fail
              refine (inS 0 5000 0 true Dl.out _).mono ?_
              rintro e wq ⟨rfl, rfl⟩
              go_wp2_with fail
              refine (inS 0 100 b false Db.out _).mono ?_
              rintro e wq ⟨rfl, rfl⟩
              go_wp2
              go_ret
              exact ⟨rfl, HB1.out⟩
        · have Dl : Hid (decide (0 ≤ l ∧ l ≤ 5000) = false) := decide_eq_false h4
          obtain rfl : B = false := pm_no (p := ⟨s, n, d, r, l, b, g, k⟩) hB (fun h => by unfold Pm.ok ratR at h; dsimp only at h; omega)
          clear hB h1 h2 h2' h4 hs1 hs3
          go_enter Tryz.func94, Tryz.ntmps94
          go_wp2_with fail
          refine (inS 0 3 s true D1.out _).mono ?_
          rintro e wq ⟨rfl, rfl⟩
          go_wp2_with fail
          refine (HR.out _).mono ?_
          rintro e w1 ⟨rfl, hb1⟩
          have HB1 := bq HB0 hb1
          have HK1 := rq HK0 hb1
          have k1 := box8_cells HK1.out
          clear hb1 HB0 HK0 k0
          rw [Dr.out]
          go_wp2_with fail
          refine (inS 0 5000 l false Dl.out _).mono ?_
          rintro e wq ⟨rfl, rfl⟩
          go_wp2
          go_ret
          exact ⟨rfl, HB1.out⟩
      · obtain rfl : B = false := pm_no (p := ⟨s, n, d, r, l, b, g, k⟩) hB (fun h => by unfold Pm.ok ratR at h; dsimp only at h; omega)
        clear hB h1 h2 h2' hs1 hs3
        go_enter Tryz.func94, Tryz.ntmps94
        go_wp2_with fail
        refine (inS 0 3 s true D1.out _).mono ?_
        rintro e wq ⟨rfl, rfl⟩
        go_wp2_with fail
        refine (HR.out _).mono ?_
        rintro e w1 ⟨rfl, hb1⟩
        have HB1 := bq HB0 hb1
        have HK1 := rq HK0 hb1
        have k1 := box8_cells HK1.out
        clear hb1 HB0 HK0 k0
        rw [Dr.out]
        go_wp2
        go_ret
        exact ⟨rfl, HB1.out⟩
    · have Dr : Hid (rateOk n d r = false) := rat_no h2
      obtain rfl : B = false := pm_no (p := ⟨s, n, d, r, l, b, g, k⟩) hB (fun h => by unfold Pm.ok at h; dsimp only at h; exact h2 h.2.1)
      clear hB h1 h2 hs1 hs3
      go_enter Tryz.func94, Tryz.ntmps94
      go_wp2_with fail
      refine (inS 0 3 s true D1.out _).mono ?_
      rintro e wq ⟨rfl, rfl⟩
      go_wp2_with fail
      refine (HR.out _).mono ?_
      rintro e w1 ⟨rfl, hb1⟩
      have HB1 := bq HB0 hb1
      have HK1 := rq HK0 hb1
      have k1 := box8_cells HK1.out
      clear hb1 HB0 HK0 k0
      rw [Dr.out]
      go_wp2
      go_ret
      exact ⟨rfl, HB1.out⟩
  · have D1 : Hid (decide (0 ≤ s ∧ s ≤ 3) = false) := decide_eq_false h1
    obtain rfl : B = false := pm_no (p := ⟨s, n, d, r, l, b, g, k⟩) hB (fun h => by unfold Pm.ok ratR at h; dsimp only at h; omega)
    clear hB h1 hs1 hs3
    go_enter Tryz.func94, Tryz.ntmps94
    go_wp2_with fail
    refine (inS 0 3 s false D1.out _).mono ?_
    rintro e wq ⟨rfl, rfl⟩
    go_wp2
    go_ret
    exact ⟨rfl, HB0.out⟩
theorem pumpokS (p : Pm) (B : Bool) (hB : B = true ↔ p.ok) (w : World) : Calls Tryz.prog 94 #[p.V] w fun e w' => e = .returned (.bool B) ∧ Below w.heap.size w w' := by
  obtain ⟨s, n, d, r, l, b, g, k⟩ := p
  by_cases h1 : s = 1
  · subst h1; exact pumpokS_s1 n d r l b g k B hB w
  by_cases h3 : s = 3
  · subst h3
    by_cases hk : k = 1
    · subst hk; exact pumpokS_s31 n d r l b g B hB w
    · exact pumpokS_s3n n d r l b g k hk B hB w
  exact pumpokS_so s n d r l b g k h1 h3 B hB w
end Go.Proofs.YtfhhnelffldggaaGreatDoor
namespace Go.Proofs.YtfhhnelffldggaaGreatDoor.H
open Go.RowKit Go.PlainAid
set_option linter.unusedVariables false
theorem holdsI (l m n : Int) (b : Bool) (hb : decide (l ≤ n ∧ n ≤ m) = b) (w : World) : Calls Tryz.prog 111 #[.agg #[.int .i64 l, .int .i64 m], .int .i64 n] w fun e w' => e = .returned (.bool b) ∧ Below w.heap.size w w' := by
  go_enter Tryz.func111, Tryz.ntmps111
  by_cases h1 : l ≤ n
  · by_cases h2 : n ≤ m
    · go_wp2
      go_ret
      exact ⟨by rw [← hb, decide_eq_true ⟨h1, h2⟩]; rfl, (Below.refl _ _).alloc (Nat.le_refl _) _⟩
    · go_wp2
      go_ret
      exact ⟨by rw [← hb, decide_eq_false (fun h => by omega)]; rfl, (Below.refl _ _).alloc (Nat.le_refl _) _⟩
  · go_wp2
    go_ret
    exact ⟨by rw [← hb, decide_eq_false (fun h => by omega)]; rfl, (Below.refl _ _).alloc (Nat.le_refl _) _⟩
theorem inS (l m n : Int) (b : Bool) (hb : decide (l ≤ n ∧ n ≤ m) = b) (w : World) : Calls Tryz.prog 97 #[.int .i64 n, .int .i64 l, .int .i64 m] w fun e w' => e = .returned (.bool b) ∧ w' = w := by
  go_enter Tryz.func97, Tryz.ntmps97
  by_cases h1 : l ≤ n
  · by_cases h2 : n ≤ m
    · go_wp2
      go_ret
      exact ⟨by rw [← hb, decide_eq_true ⟨h1, h2⟩]; rfl, rfl⟩
    · go_wp2
      go_ret
      exact ⟨by rw [← hb, decide_eq_false (fun h => by omega)]; rfl, rfl⟩
  · go_wp2
    go_ret
    exact ⟨by rw [← hb, decide_eq_false (fun h => by omega)]; rfl, rfl⟩
theorem bel_on {w W W' : World} {B : Nat} (hB : B ≤ w.heap.size) (h : Below B w W) (hb : Below W.heap.size W W') : Below B w W' := h.trans (hb.mono (Nat.le_trans hB h.size))
theorem senseS (n : Int) (b : Bool) (hb : decide (0 ≤ n ∧ n ≤ 15) = b) (w : World) : Calls Tryz.prog 85 #[.int .i64 n] w fun e w' => e = .returned (.bool b) ∧ w' = w := by
  go_enter Tryz.func85, Tryz.ntmps85
  go_wp2_with fail
  refine (inS 0 15 n b hb _).mono ?_
  rintro e w1 ⟨rfl, rfl⟩
  go_wp2
  go_ret
  exact ⟨rfl, rfl⟩
theorem senseI (n : Int) (b : Bool) (hb : decide (0 ≤ n ∧ n ≤ 15) = b) (w : World) : Calls Tryz.prog 62 #[.int .i64 n] w fun e w' => e = .returned (.bool b) ∧ Below w.heap.size w w' := by
  go_enter Tryz.func62, Tryz.ntmps62
  go_wp2_with fail
  refine (holdsI 0 15 n b hb _).mono ?_
  rintro e w1 ⟨rfl, hb1⟩
  go_wp2
  go_ret
  exact ⟨rfl, hb1⟩
end Go.Proofs.YtfhhnelffldggaaGreatDoor.H
