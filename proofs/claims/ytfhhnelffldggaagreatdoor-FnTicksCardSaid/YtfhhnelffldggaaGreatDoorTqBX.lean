/-
  RunDevice of both sides, at every list of inputs.
-/
import Derived.Test.YtfhhnelffldggaaGreatDoorTqAC
import Derived.Test.YtfhhnelffldggaaGreatDoorTqBP
import Derived.Test.YtfhhnelffldggaaGreatDoorTqBW
import Derived.Test.YtfhhnelffldggaaGreatDoorTqBF
import Derived.Test.YtfhhnelffldggaaGreatDoorTqAY
set_option maxRecDepth 100000
set_option maxHeartbeats 16000000
namespace Go.Proofs.YtfhhnelffldggaaGreatDoor
open Go.ChangeShapes Go.WideShapes Go.ChangeAt Go.RowKit Go.Deep Go.PlainAid
set_option linter.unusedVariables false
set_option linter.unusedSimpArgs false
theorem runIN (l : List In3) (a : Option Addr) (n cap : Nat) (hl : l.length = n) (hn : n ≤ 1048576) (hB : (decide (n ≤ 150) && l.all inOkB) = false) (w : World) (hr : RdZ w a l) :
    Calls Tryz.prog 8 #[.slice a n cap] w fun e w' => e = .returned (.tuple #[.agg #[.int .i64 0, .int .i64 0, .int .i64 0, .int .i64 0, .int .i64 0, .int .i64 0, .int .i64 0, .int .i64 0, .slice none 0 0, .int .i64 0, .int .i64 0, .bool false, .int .i64 0, .int .i64 0, .string ⟨#[]⟩, .slice none 0 0, .int .i64 0], .bool false]) ∧ Below w.heap.size w w' := by
  have HL : Hid (l.length = n) := hl
  have HR : Hid (RdZ w a l) := hr
  obtain ⟨W0, hW0⟩ : ∃ W0, (w.alloc (dZ)) = W0 := ⟨_, rfl⟩
  have HZ0 : Hid (W0.heap[w.heap.size]? = some (dZ)) := by rw [← hW0]; exact heap_new w _
  have HB0 : Hid (Below w.heap.size w W0) := by rw [← hW0]; exact alM _ _
  by_cases h5 : n ≤ 150
  · have hA : Hid (l.all inOkB = false) := by
      show _ = _
      rw [decide_eq_true h5, Bool.true_and] at hB
      exact hB
    have hnn : ¬ ((150 : Int) < n) := by omega
    clear hl hB hr
    go_enter Tryz.func8, Tryz.ntmps8
    go_upto_region 1 with fail
    (try rw [hW0])
    clear hW0
    go_wp2_with fail
    refine (areIn a l n cap false hA.out HL.out hn _ (HR.out.keep HB0.out (Nat.le_refl _))).mono ?_
    rintro e w1 ⟨rfl, hbc⟩
    have HB1 := bq HB0 hbc
    have HZ1 : Hid (w1.heap[w.heap.size]? = some (dZ)) := row_on HZ0.out hbc
    clear hbc HB0 HZ0 HR
    go_wp2_with (refine listStoreD rfl rfl _ _ _ rfl rfl w.heap.size dY rfl rfl rfl (by kernel_rfl) HZ1.out rfl ?_)
    intro w7 hput
    have HZ7 : Hid (w7.heap[w.heap.size]? = some (dZ)) := hput.1
    have HB7 : Hid (Below w.heap.size w w7) := hput.2.2.2 _ _ (Nat.le_refl _) HB1.out
    clear hput HZ1 HB1
    go_wp2
    exact bodyPost_ret (v := .tuple #[.agg #[.int .i64 0, .int .i64 0, .int .i64 0, .int .i64 0, .int .i64 0, .int .i64 0, .int .i64 0, .int .i64 0, .slice none 0 0, .int .i64 0, .int .i64 0, .bool false, .int .i64 0, .int .i64 0, .string ⟨#[]⟩, .slice none 0 0, .int .i64 0], .bool false]) (results2_row Tryz.results8 _ _ w.heap.size _ _ _ (.bool false) rfl rfl HZ7.out (by kernel_rfl) (by kernel_rfl)) rfl ⟨rfl, HB7.out⟩
  · have hnn : (150 : Int) < n := by omega
    clear hl hB hr HR
    go_enter Tryz.func8, Tryz.ntmps8
    go_upto_region 1 with fail
    (try rw [hW0])
    clear hW0
    go_wp2_with (refine listStoreD rfl rfl _ _ _ rfl rfl w.heap.size dY rfl rfl rfl (by kernel_rfl) HZ0.out rfl ?_)
    intro w7 hput
    have HZ7 : Hid (w7.heap[w.heap.size]? = some (dZ)) := hput.1
    have HB7 : Hid (Below w.heap.size w w7) := hput.2.2.2 _ _ (Nat.le_refl _) HB0.out
    clear hput HZ0 HB0
    go_wp2
    exact bodyPost_ret (v := .tuple #[.agg #[.int .i64 0, .int .i64 0, .int .i64 0, .int .i64 0, .int .i64 0, .int .i64 0, .int .i64 0, .int .i64 0, .slice none 0 0, .int .i64 0, .int .i64 0, .bool false, .int .i64 0, .int .i64 0, .string ⟨#[]⟩, .slice none 0 0, .int .i64 0], .bool false]) (results2_row Tryz.results8 _ _ w.heap.size _ _ _ (.bool false) rfl rfl HZ7.out (by kernel_rfl) (by kernel_rfl)) rfl ⟨rfl, HB7.out⟩
end Go.Proofs.YtfhhnelffldggaaGreatDoor
