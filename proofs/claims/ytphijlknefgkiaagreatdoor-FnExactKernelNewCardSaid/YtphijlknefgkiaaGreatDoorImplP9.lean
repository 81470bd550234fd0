/-
  Plans of the program: isPart, isBudget, PlanOk, TimeOf, WindowAt.
-/
import Derived.Test.YtphijlknefgkiaaGreatDoorPlan9
import Derived.Test.YtphijlknefgkiaaGreatDoorAppWin
namespace Go.Proofs.YtphijlknefgkiaaGreatDoor
open Go.RowKit Go.PlainAid
set_option linter.unusedVariables false

theorem partI (n : Int) (b : Bool) (hb : decide (1 ≤ n ∧ n ≤ 4) = b) (w : World) : Calls Tryz.prog 107 #[.int .i64 n] w fun e w' => e = .returned (.bool b) ∧ Below w.heap.size w w' := by
  go_enter Tryz.func107, Tryz.ntmps107
  go_wp2_with fail
  refine (holdsI 1 4 n b hb _).mono ?_
  rintro e w1 ⟨rfl, hb1⟩
  go_wp2
  go_ret
  exact ⟨rfl, hb1⟩
theorem budgetI (n : Int) (b : Bool) (hb : decide (1 ≤ n ∧ n ≤ 200) = b) (w : World) : Calls Tryz.prog 108 #[.int .i64 n] w fun e w' => e = .returned (.bool b) ∧ Below w.heap.size w w' := by
  go_enter Tryz.func108, Tryz.ntmps108
  go_wp2_with fail
  refine (holdsI 1 200 n b hb _).mono ?_
  rintro e w1 ⟨rfl, hb1⟩
  go_wp2
  go_ret
  exact ⟨rfl, hb1⟩

set_option maxRecDepth 100000 in
set_option maxHeartbeats 2000000 in
theorem planI (a : Option Addr) (rl : List (Int × Int)) (n cap : Nat) (b : Bool) (hl : rl.length = n) (hn : n ≤ 1048576) (hb : b = true ↔ PlanR rl) (w : World) (hr : RdR w a rl) :
    Calls Tryz.prog 93 #[.slice a n cap] w fun e w' => e = .returned (.bool b) ∧ Below w.heap.size w w' := by
  have HB : Hid (b = true ↔ PlanR rl) := hb
  have HL : Hid (rl.length = n) := hl
  clear hb hl
  by_cases hs : 1 ≤ n ∧ n ≤ 12
  · obtain ⟨hs1, hs2⟩ := hs
    obtain ⟨g, off, rfl, hc⟩ := hr (by have := HL.out; omega)
    have HC : Hid (∀ j (h : j < rl.length), w.cell? ⟨g, off + j * 2, none⟩ = some (.int .i64 rl[j].1) ∧ w.cell? ⟨g, off + j * 2 + 1, none⟩ = some (.int .i64 rl[j].2)) := hc
    have hgl : g < w.heap.size := World.block_lt_of_cell? w ⟨g, off + 0 * 2, none⟩ (hc 0 (by have := HL.out; omega)).1
    clear hr hc
    go_enter Tryz.func93, Tryz.ntmps93
    go_wp2_with fail
    refine (holdsI 1 12 (n : Int) true (decide_eq_true ⟨by omega, by omega⟩) _).mono ?_
    rintro e w0 ⟨rfl, hb0⟩
    have HW0 : Hid (Below w.heap.size w w0) := hb0
    clear hb0
    go_wp2
    go_loopg [12] n (fun gk i wr => ∃ j : Nat, j + gk = n ∧ i = .int .i64 j ∧ Hid (AllP rl j) ∧ Hid (Below w.heap.size w wr))
    case atStart => exact ⟨0, by omega, rfl, allP_zero rl, HW0⟩
    case round =>
      obtain ⟨j, hj, rfl, HI, HW⟩ := hrel
      by_cases hlt : j < n
      · have hjl : j < rl.length := by have := HL.out; omega
        have c0 := HC.out j hjl
        have c1 := (HW.out.cell (p := ⟨g, off + j * 2, none⟩) hgl).trans c0.1
        have c2 := (HW.out.cell (p := ⟨g, off + j * 2 + 1, none⟩) hgl).trans c0.2
        clear c0
        obtain ⟨f, hf⟩ : ∃ f, rl[j].1 = f := ⟨_, rfl⟩
        obtain ⟨s, hs⟩ : ∃ s, rl[j].2 = s := ⟨_, rfl⟩
        rw [hf] at c1
        rw [hs] at c2
        have HF : Hid (rl[j].1 = f ∧ rl[j].2 = s) := ⟨hf, hs⟩
        clear hf hs
        have HBX : Hid ((wr.alloc (.cells #[.int .i64 f, .int .i64 s] 98)).heap[wr.heap.size]? = some (.cells #[.int .i64 f, .int .i64 s] 98)) := heap_new wr _
        have HWX : Hid (Below w.heap.size w (wr.alloc (.cells #[.int .i64 f, .int .i64 s] 98))) := HW.out.alloc HW.out.size _
        clear HW
        by_cases hf : 1 ≤ f ∧ f ≤ 4
        · have hd1 : decide ((1 : Int) ≤ f ∧ f ≤ 4) = true := decide_eq_true hf
          go_wp2_with fail
          refine (partI f true hd1 _).mono ?_
          rintro e w1 ⟨rfl, hb1⟩
          have k1 := row2_cells (row_after HBX.out hb1 (row_lt HBX.out))
          have HW1 : Hid (Below w.heap.size w w1) := HWX.out.trans (hb1.mono HWX.out.size)
          clear hb1 hd1 HBX HWX c1 c2
          by_cases hs : 1 ≤ s ∧ s ≤ 200
          · have hd2 : decide ((1 : Int) ≤ s ∧ s ≤ 200) = true := decide_eq_true hs
            have HI' : Hid (AllP rl (j + 1)) := allP_succ HI.out hjl (by rw [HF.out.1, HF.out.2]; exact ⟨hf, hs⟩)
            clear hf hs HI
            go_wp2_with fail
            refine (budgetI s true hd2 _).mono ?_
            rintro e w2 ⟨rfl, hb2⟩
            have HW2 : Hid (Below w.heap.size w w2) := HW1.out.trans (hb2.mono HW1.out.size)
            clear hb2 hd2 k1 HW1
            go_wp2
            go_roundg (gk - 1)
            case measure => omega
            case rel => exact ⟨j + 1, by omega, by go_num, HI', HW2⟩
          · have hd2 : decide ((1 : Int) ≤ s ∧ s ≤ 200) = false := decide_eq_false hs
            have HE : Hid (b = false) := not_plan HB.out j hjl (by rw [HF.out.1, HF.out.2]; exact fun h => hs h.2)
            clear hf hs HI
            go_wp2_with fail
            refine (budgetI s false hd2 _).mono ?_
            rintro e w2 ⟨rfl, hb2⟩
            have HW2 : Hid (Below w.heap.size w w2) := HW1.out.trans (hb2.mono HW1.out.size)
            clear hb2 hd2 k1 HW1
            go_wp2
            go_ret
            exact ⟨by rw [HE.out]; rfl, HW2.out⟩
        · have hd1 : decide ((1 : Int) ≤ f ∧ f ≤ 4) = false := decide_eq_false hf
          have HE : Hid (b = false) := not_plan HB.out j hjl (by rw [HF.out.1, HF.out.2]; exact fun h => hf h.1)
          clear hf HI
          go_wp2_with fail
          refine (partI f false hd1 _).mono ?_
          rintro e w1 ⟨rfl, hb1⟩
          have HW1 : Hid (Below w.heap.size w w1) := HWX.out.trans (hb1.mono HWX.out.size)
          clear hb1 hd1 HBX HWX c1 c2
          go_wp2
          go_ret
          exact ⟨by rw [HE.out]; rfl, HW1.out⟩
      · have HE : Hid (b = true) := HB.out.2 ⟨by have := HL.out; omega, fun i h => HI.out i h (by have := HL.out; omega)⟩
        go_wp2
        go_ret
        exact ⟨by rw [HE.out]; rfl, HW.out⟩
  · have HE : Hid (b = false) := not_size HB.out (by have := HL.out; omega)
    clear hr
    go_enter Tryz.func93, Tryz.ntmps93
    go_wp2_with fail
    refine (holdsI 1 12 (n : Int) false (decide_eq_false (fun h => hs ⟨by omega, by omega⟩)) _).mono ?_
    rintro e w0 ⟨rfl, hb0⟩
    have HW0 : Hid (Below w.heap.size w w0) := hb0
    clear hb0
    go_wp2
    go_ret
    exact ⟨by rw [HE.out]; rfl, HW0.out⟩

end Go.Proofs.YtphijlknefgkiaaGreatDoor
