/-
  InOk of the program.
-/
import Derived.Test.YtbcegpncledolaaInA
namespace Go.Proofs.Ytbcegpncledolaa
open Go.RowKit Go.Deep Go.PlainAid
set_option linter.unusedVariables false

set_option maxRecDepth 100000 in
set_option maxHeartbeats 1000000 in
theorem inokI (b : Int) (K L : ByteArray) (B : Bool) (hB : decide ((0 ≤ b ∧ b ≤ 15) ∧ K.size ≤ 20 ∧ L.size ≤ 40) = B) (w : World) : Calls Try.prog 9 #[.agg #[.int .i64 b, .string K, .string L]] w fun e w' => e = .returned (.bool B) ∧ Below w.heap.size w w' := by
  have HB : Hid (decide ((0 ≤ b ∧ b ≤ 15) ∧ K.size ≤ 20 ∧ L.size ≤ 40) = B) := hB
  have HP : Hid ((w.alloc (.cells #[.int .i64 b, .string K, .string L] 26)).heap[w.heap.size]? = some (.cells #[.int .i64 b, .string K, .string L] 26)) := heap_new w _
  have HW : Hid (Below w.heap.size w (w.alloc (.cells #[.int .i64 b, .string K, .string L] 26))) := alI _ _
  obtain ⟨B1, hB1⟩ : ∃ B1, decide (0 ≤ b ∧ b ≤ 15) = B1 := ⟨_, rfl⟩
  have H1 : Hid (decide (0 ≤ b ∧ b ≤ 15) = B1) := hB1
  have p := box3i_cells HP.out
  clear hB hB1
  go_enter Try.func9, Try.ntmps9
  go_wp2_with fail
  refine (H.senseI b B1 H1.out _).mono ?_
  rintro e W ⟨rfl, hW⟩
  have HW1 : Hid (Below w.heap.size w W) := bel_on (Nat.le_refl _) HW.out hW
  have p1 := box3i_cells (row_on HP.out hW)
  clear hW HW HP p
  cases B1
  · obtain rfl : false = B := by rw [← HB.out]; exact (decide_eq_false (fun h => absurd h.1 (of_decide_eq_false H1.out))).symm
    go_wp2
    go_ret
    exact ⟨rfl, HW1.out⟩
  have h1 := of_decide_eq_true H1.out
  by_cases hk : K.size ≤ 20
  case neg =>
    obtain rfl : false = B := by rw [← HB.out]; exact (decide_eq_false (fun h => hk h.2.1)).symm
    have hk' : ¬ (K.size : Int) ≤ 20 := by omega
    go_wp2
    go_ret
    exact ⟨rfl, HW1.out⟩
  have hk' : (K.size : Int) ≤ 20 := by omega
  by_cases hl : L.size ≤ 40
  · obtain rfl : true = B := by rw [← HB.out]; exact (decide_eq_true ⟨h1, hk, hl⟩).symm
    have hl' : (L.size : Int) ≤ 40 := by omega
    clear h1
    go_wp2
    go_ret
    exact ⟨rfl, HW1.out⟩
  · obtain rfl : false = B := by rw [← HB.out]; exact (decide_eq_false (fun h => hl h.2.2)).symm
    have hl' : ¬ (L.size : Int) ≤ 40 := by omega
    clear h1
    go_wp2
    go_ret
    exact ⟨by show Ending.returned (Value.bool (decide ((L.size : Int) ≤ 40))) = _; rw [decide_eq_false (by omega)], HW1.out⟩
end Go.Proofs.Ytbcegpncledolaa
