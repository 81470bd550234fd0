/-
  What the methods of a right pump's state do.
-/
import Derived.Test.YtfhhnelffldggaaGreatDoorUqBB
import Derived.Test.YtfhhnelffldggaaGreatDoorUqBC
import Derived.Test.YtfhhnelffldggaaGreatDoorUqBA
namespace Go.Proofs.YtfhhnelffldggaaGreatDoor
open Go.RowKit Go.PlainAid
set_option linter.unusedVariables false
set_option linter.unusedSimpArgs false
theorem tkW_1_0 (n d r l b g k N D V : Int) (hp : Pm.ok ⟨0, n, d, r, l, b, g, k⟩) (ho : OrdR 1 N D V) (w : World) : Calls Tryz.prog 142 #[PV 0 n d r l b g k, .agg #[.int .i64 1, .int .i64 N, .int .i64 D, .int .i64 V]] w fun e w' => e = .returned (.tuple #[(Pm.take ⟨0, n, d, r, l, b, g, k⟩ 1 N D V).1.V, .bool (Pm.take ⟨0, n, d, r, l, b, g, k⟩ 1 N D V).2]) ∧ Below w.heap.size w w' := by
 have HT : Pm.take ⟨0, n, d, r, l, b, g, k⟩ 1 N D V = (⟨1, N, D, 0, V, b, g, k⟩, true) := by unfold Pm.take; rw [or_yes ho, ok_yes hp]; simp
 rw [HT]
 exact (idlI_1 0 n d r l b g k N D V (fun w => stdI 0 n d r l b g k 1 N D V w) w)
theorem tkW_1_1 (n d r l b g k N D V : Int) (hp : Pm.ok ⟨1, n, d, r, l, b, g, k⟩) (ho : OrdR 1 N D V) (w : World) : Calls Tryz.prog 133 #[PV 1 n d r l b g k, .agg #[.int .i64 1, .int .i64 N, .int .i64 D, .int .i64 V]] w fun e w' => e = .returned (.tuple #[(Pm.take ⟨1, n, d, r, l, b, g, k⟩ 1 N D V).1.V, .bool (Pm.take ⟨1, n, d, r, l, b, g, k⟩ 1 N D V).2]) ∧ Below w.heap.size w w' := by
 have HT : Pm.take ⟨1, n, d, r, l, b, g, k⟩ 1 N D V = (⟨1, n, d, r, l, b, g, k⟩, false) := by unfold Pm.take; rw [or_yes ho, ok_yes hp]; simp
 rw [HT]
 exact (runI_n 1 n d r l b g k 1 N D V rfl rfl (fun w => (alwI_n 1 n d r l b g k 1 N D V rfl w)) w)
theorem tkW_1_2 (n d r l b g k N D V : Int) (hp : Pm.ok ⟨2, n, d, r, l, b, g, k⟩) (ho : OrdR 1 N D V) (w : World) : Calls Tryz.prog 136 #[PV 2 n d r l b g k, .agg #[.int .i64 1, .int .i64 N, .int .i64 D, .int .i64 V]] w fun e w' => e = .returned (.tuple #[(Pm.take ⟨2, n, d, r, l, b, g, k⟩ 1 N D V).1.V, .bool (Pm.take ⟨2, n, d, r, l, b, g, k⟩ 1 N D V).2]) ∧ Below w.heap.size w w' := by
 have HT : Pm.take ⟨2, n, d, r, l, b, g, k⟩ 1 N D V = (⟨1, N, D, 0, V, b, g, k⟩, true) := by unfold Pm.take; rw [or_yes ho, ok_yes hp]; simp
 rw [HT]
 exact (kepI_1 2 n d r l b g k N D V (fun w => stdI 2 n d r l b g k 1 N D V w) w)
theorem tkW_1_3 (n d r l b g k N D V : Int) (hp : Pm.ok ⟨3, n, d, r, l, b, g, k⟩) (ho : OrdR 1 N D V) (w : World) : Calls Tryz.prog 139 #[PV 3 n d r l b g k, .agg #[.int .i64 1, .int .i64 N, .int .i64 D, .int .i64 V]] w fun e w' => e = .returned (.tuple #[(Pm.take ⟨3, n, d, r, l, b, g, k⟩ 1 N D V).1.V, .bool (Pm.take ⟨3, n, d, r, l, b, g, k⟩ 1 N D V).2]) ∧ Below w.heap.size w w' := by
 have HT : Pm.take ⟨3, n, d, r, l, b, g, k⟩ 1 N D V = (⟨3, n, d, r, l, b, g, k⟩, false) := by unfold Pm.take; rw [or_yes ho, ok_yes hp]; simp
 rw [HT]
 exact (pauI_n 3 n d r l b g k 1 N D V rfl (fun w => (alwI_n 3 n d r l b g k 1 N D V rfl w)) w)
theorem tkW_2_0 (n d r l b g k N D V : Int) (hp : Pm.ok ⟨0, n, d, r, l, b, g, k⟩) (ho : OrdR 2 N D V) (w : World) : Calls Tryz.prog 142 #[PV 0 n d r l b g k, .agg #[.int .i64 2, .int .i64 N, .int .i64 D, .int .i64 V]] w fun e w' => e = .returned (.tuple #[(Pm.take ⟨0, n, d, r, l, b, g, k⟩ 2 N D V).1.V, .bool (Pm.take ⟨0, n, d, r, l, b, g, k⟩ 2 N D V).2]) ∧ Below w.heap.size w w' := by
 have HT : Pm.take ⟨0, n, d, r, l, b, g, k⟩ 2 N D V = (⟨0, n, d, r, l, b, g, k⟩, false) := by unfold Pm.take; rw [or_yes ho, ok_yes hp]; simp
 rw [HT]
 exact (idlI_n 0 n d r l b g k 2 N D V rfl (fun w => (alwI_n 0 n d r l b g k 2 N D V rfl w)) w)
theorem tkW_2_1b0 (n d r l g k N D V : Int) (hp : Pm.ok ⟨1, n, d, r, l, 0, g, k⟩) (ho : OrdR 2 N D V) (w : World) : Calls Tryz.prog 133 #[PV 1 n d r l 0 g k, .agg #[.int .i64 2, .int .i64 N, .int .i64 D, .int .i64 V]] w fun e w' => e = .returned (.tuple #[(Pm.take ⟨1, n, d, r, l, 0, g, k⟩ 2 N D V).1.V, .bool (Pm.take ⟨1, n, d, r, l, 0, g, k⟩ 2 N D V).2]) ∧ Below w.heap.size w w' := by
 have HT : Pm.take ⟨1, n, d, r, l, 0, g, k⟩ 2 N D V = (⟨1, n, d, r, l, V, g, k⟩, true) := by unfold Pm.take; rw [or_yes ho, ok_yes hp]; simp
 rw [HT]
 exact (runI_2 1 n d r l 0 g k N D V (fun w => wbI_0 1 n d r l g k 2 N D V w) w)
theorem tkW_2_1b1 (n d r l b g k N D V : Int) (hp : Pm.ok ⟨1, n, d, r, l, b, g, k⟩) (ho : OrdR 2 N D V) (hb0 : 0 < b) (w : World) : Calls Tryz.prog 133 #[PV 1 n d r l b g k, .agg #[.int .i64 2, .int .i64 N, .int .i64 D, .int .i64 V]] w fun e w' => e = .returned (.tuple #[(Pm.take ⟨1, n, d, r, l, b, g, k⟩ 2 N D V).1.V, .bool (Pm.take ⟨1, n, d, r, l, b, g, k⟩ 2 N D V).2]) ∧ Below w.heap.size w w' := by
 have HT : Pm.take ⟨1, n, d, r, l, b, g, k⟩ 2 N D V = (⟨1, n, d, r, l, b, g, k⟩, false) := by unfold Pm.take; rw [or_yes ho, ok_yes hp]; simp [hb0]
 have hbn : (b != 0) = true := by simp; omega
 rw [HT]
 exact (runI_2 1 n d r l b g k N D V (fun w => wbI_n 1 n d r l b g k 2 N D V hbn w) w)
theorem tkW_2_2b0 (n d r l g k N D V : Int) (hp : Pm.ok ⟨2, n, d, r, l, 0, g, k⟩) (ho : OrdR 2 N D V) (w : World) : Calls Tryz.prog 136 #[PV 2 n d r l 0 g k, .agg #[.int .i64 2, .int .i64 N, .int .i64 D, .int .i64 V]] w fun e w' => e = .returned (.tuple #[(Pm.take ⟨2, n, d, r, l, 0, g, k⟩ 2 N D V).1.V, .bool (Pm.take ⟨2, n, d, r, l, 0, g, k⟩ 2 N D V).2]) ∧ Below w.heap.size w w' := by
 have HT : Pm.take ⟨2, n, d, r, l, 0, g, k⟩ 2 N D V = (⟨2, n, d, r, l, V, g, k⟩, true) := by unfold Pm.take; rw [or_yes ho, ok_yes hp]; simp
 rw [HT]
 exact (kepI_n 2 n d r l 0 g k 2 N D V rfl (fun w => (runI_2 2 n d r l 0 g k N D V (fun w => wbI_0 2 n d r l g k 2 N D V w) w)) w)
theorem tkW_2_2b1 (n d r l b g k N D V : Int) (hp : Pm.ok ⟨2, n, d, r, l, b, g, k⟩) (ho : OrdR 2 N D V) (hb0 : 0 < b) (w : World) : Calls Tryz.prog 136 #[PV 2 n d r l b g k, .agg #[.int .i64 2, .int .i64 N, .int .i64 D, .int .i64 V]] w fun e w' => e = .returned (.tuple #[(Pm.take ⟨2, n, d, r, l, b, g, k⟩ 2 N D V).1.V, .bool (Pm.take ⟨2, n, d, r, l, b, g, k⟩ 2 N D V).2]) ∧ Below w.heap.size w w' := by
 have HT : Pm.take ⟨2, n, d, r, l, b, g, k⟩ 2 N D V = (⟨2, n, d, r, l, b, g, k⟩, false) := by unfold Pm.take; rw [or_yes ho, ok_yes hp]; simp [hb0]
 have hbn : (b != 0) = true := by simp; omega
 rw [HT]
 exact (kepI_n 2 n d r l b g k 2 N D V rfl (fun w => (runI_2 2 n d r l b g k N D V (fun w => wbI_n 2 n d r l b g k 2 N D V hbn w) w)) w)
theorem tkW_2_3 (n d r l b g k N D V : Int) (hp : Pm.ok ⟨3, n, d, r, l, b, g, k⟩) (ho : OrdR 2 N D V) (w : World) : Calls Tryz.prog 139 #[PV 3 n d r l b g k, .agg #[.int .i64 2, .int .i64 N, .int .i64 D, .int .i64 V]] w fun e w' => e = .returned (.tuple #[(Pm.take ⟨3, n, d, r, l, b, g, k⟩ 2 N D V).1.V, .bool (Pm.take ⟨3, n, d, r, l, b, g, k⟩ 2 N D V).2]) ∧ Below w.heap.size w w' := by
 have HT : Pm.take ⟨3, n, d, r, l, b, g, k⟩ 2 N D V = (⟨3, n, d, r, l, b, g, k⟩, false) := by unfold Pm.take; rw [or_yes ho, ok_yes hp]; simp
 rw [HT]
 exact (pauI_n 3 n d r l b g k 2 N D V rfl (fun w => (alwI_n 3 n d r l b g k 2 N D V rfl w)) w)
theorem tkW_3_0 (n d r l b g k N D V : Int) (hp : Pm.ok ⟨0, n, d, r, l, b, g, k⟩) (ho : OrdR 3 N D V) (w : World) : Calls Tryz.prog 142 #[PV 0 n d r l b g k, .agg #[.int .i64 3, .int .i64 N, .int .i64 D, .int .i64 V]] w fun e w' => e = .returned (.tuple #[(Pm.take ⟨0, n, d, r, l, b, g, k⟩ 3 N D V).1.V, .bool (Pm.take ⟨0, n, d, r, l, b, g, k⟩ 3 N D V).2]) ∧ Below w.heap.size w w' := by
 have HT : Pm.take ⟨0, n, d, r, l, b, g, k⟩ 3 N D V = (⟨0, n, d, r, l, b, g, k⟩, false) := by unfold Pm.take; rw [or_yes ho, ok_yes hp]; simp
 rw [HT]
 exact (idlI_n 0 n d r l b g k 3 N D V rfl (fun w => (alwI_n 0 n d r l b g k 3 N D V rfl w)) w)
theorem tkW_3_1 (n d r l b g k N D V : Int) (hp : Pm.ok ⟨1, n, d, r, l, b, g, k⟩) (ho : OrdR 3 N D V) (w : World) : Calls Tryz.prog 133 #[PV 1 n d r l b g k, .agg #[.int .i64 3, .int .i64 N, .int .i64 D, .int .i64 V]] w fun e w' => e = .returned (.tuple #[(Pm.take ⟨1, n, d, r, l, b, g, k⟩ 3 N D V).1.V, .bool (Pm.take ⟨1, n, d, r, l, b, g, k⟩ 3 N D V).2]) ∧ Below w.heap.size w w' := by
 have HT : Pm.take ⟨1, n, d, r, l, b, g, k⟩ 3 N D V = (⟨3, n, d, r, l, b, g, 1⟩, true) := by unfold Pm.take; rw [or_yes ho, ok_yes hp]; simp
 rw [HT]
 exact (runI_3 1 n d r l b g k N D V w)
theorem tkW_3_2 (n d r l b g k N D V : Int) (hp : Pm.ok ⟨2, n, d, r, l, b, g, k⟩) (ho : OrdR 3 N D V) (w : World) : Calls Tryz.prog 136 #[PV 2 n d r l b g k, .agg #[.int .i64 3, .int .i64 N, .int .i64 D, .int .i64 V]] w fun e w' => e = .returned (.tuple #[(Pm.take ⟨2, n, d, r, l, b, g, k⟩ 3 N D V).1.V, .bool (Pm.take ⟨2, n, d, r, l, b, g, k⟩ 3 N D V).2]) ∧ Below w.heap.size w w' := by
 have HT : Pm.take ⟨2, n, d, r, l, b, g, k⟩ 3 N D V = (⟨3, n, d, r, l, b, g, 2⟩, true) := by unfold Pm.take; rw [or_yes ho, ok_yes hp]; simp
 rw [HT]
 exact (kepI_n 2 n d r l b g k 3 N D V rfl (fun w => (runI_3 2 n d r l b g k N D V w)) w)
theorem tkW_3_3 (n d r l b g k N D V : Int) (hp : Pm.ok ⟨3, n, d, r, l, b, g, k⟩) (ho : OrdR 3 N D V) (w : World) : Calls Tryz.prog 139 #[PV 3 n d r l b g k, .agg #[.int .i64 3, .int .i64 N, .int .i64 D, .int .i64 V]] w fun e w' => e = .returned (.tuple #[(Pm.take ⟨3, n, d, r, l, b, g, k⟩ 3 N D V).1.V, .bool (Pm.take ⟨3, n, d, r, l, b, g, k⟩ 3 N D V).2]) ∧ Below w.heap.size w w' := by
 have HT : Pm.take ⟨3, n, d, r, l, b, g, k⟩ 3 N D V = (⟨3, n, d, r, l, b, g, k⟩, false) := by unfold Pm.take; rw [or_yes ho, ok_yes hp]; simp
 rw [HT]
 exact (pauI_n 3 n d r l b g k 3 N D V rfl (fun w => (alwI_n 3 n d r l b g k 3 N D V rfl w)) w)
theorem tkW_4_0 (n d r l b g k N D V : Int) (hp : Pm.ok ⟨0, n, d, r, l, b, g, k⟩) (ho : OrdR 4 N D V) (w : World) : Calls Tryz.prog 142 #[PV 0 n d r l b g k, .agg #[.int .i64 4, .int .i64 N, .int .i64 D, .int .i64 V]] w fun e w' => e = .returned (.tuple #[(Pm.take ⟨0, n, d, r, l, b, g, k⟩ 4 N D V).1.V, .bool (Pm.take ⟨0, n, d, r, l, b, g, k⟩ 4 N D V).2]) ∧ Below w.heap.size w w' := by
 have HT : Pm.take ⟨0, n, d, r, l, b, g, k⟩ 4 N D V = (⟨0, n, d, r, l, b, g, k⟩, false) := by unfold Pm.take; rw [or_yes ho, ok_yes hp]; simp
 rw [HT]
 exact (idlI_n 0 n d r l b g k 4 N D V rfl (fun w => (alwI_n 0 n d r l b g k 4 N D V rfl w)) w)
theorem tkW_4_1 (n d r l b g k N D V : Int) (hp : Pm.ok ⟨1, n, d, r, l, b, g, k⟩) (ho : OrdR 4 N D V) (w : World) : Calls Tryz.prog 133 #[PV 1 n d r l b g k, .agg #[.int .i64 4, .int .i64 N, .int .i64 D, .int .i64 V]] w fun e w' => e = .returned (.tuple #[(Pm.take ⟨1, n, d, r, l, b, g, k⟩ 4 N D V).1.V, .bool (Pm.take ⟨1, n, d, r, l, b, g, k⟩ 4 N D V).2]) ∧ Below w.heap.size w w' := by
 have HT : Pm.take ⟨1, n, d, r, l, b, g, k⟩ 4 N D V = (⟨1, n, d, r, l, b, g, k⟩, false) := by unfold Pm.take; rw [or_yes ho, ok_yes hp]; simp
 rw [HT]
 exact (runI_n 1 n d r l b g k 4 N D V rfl rfl (fun w => (alwI_n 1 n d r l b g k 4 N D V rfl w)) w)
theorem tkW_4_2 (n d r l b g k N D V : Int) (hp : Pm.ok ⟨2, n, d, r, l, b, g, k⟩) (ho : OrdR 4 N D V) (w : World) : Calls Tryz.prog 136 #[PV 2 n d r l b g k, .agg #[.int .i64 4, .int .i64 N, .int .i64 D, .int .i64 V]] w fun e w' => e = .returned (.tuple #[(Pm.take ⟨2, n, d, r, l, b, g, k⟩ 4 N D V).1.V, .bool (Pm.take ⟨2, n, d, r, l, b, g, k⟩ 4 N D V).2]) ∧ Below w.heap.size w w' := by
 have HT : Pm.take ⟨2, n, d, r, l, b, g, k⟩ 4 N D V = (⟨2, n, d, r, l, b, g, k⟩, false) := by unfold Pm.take; rw [or_yes ho, ok_yes hp]; simp
 rw [HT]
 exact (kepI_n 2 n d r l b g k 4 N D V rfl (fun w => (runI_n 2 n d r l b g k 4 N D V rfl rfl (fun w => (alwI_n 2 n d r l b g k 4 N D V rfl w)) w)) w)
theorem tkW_4_3 (n d r l b g k N D V : Int) (hp : Pm.ok ⟨3, n, d, r, l, b, g, k⟩) (ho : OrdR 4 N D V) (w : World) : Calls Tryz.prog 139 #[PV 3 n d r l b g k, .agg #[.int .i64 4, .int .i64 N, .int .i64 D, .int .i64 V]] w fun e w' => e = .returned (.tuple #[(Pm.take ⟨3, n, d, r, l, b, g, k⟩ 4 N D V).1.V, .bool (Pm.take ⟨3, n, d, r, l, b, g, k⟩ 4 N D V).2]) ∧ Below w.heap.size w w' := by
 have HT : Pm.take ⟨3, n, d, r, l, b, g, k⟩ 4 N D V = (⟨k, n, d, r, l, b, g, 0⟩, true) := by unfold Pm.take; rw [or_yes ho, ok_yes hp]; simp
 rw [HT]
 exact (pauI_4 3 n d r l b g k N D V w)
theorem tkW_5_0 (n d r l b g k N D V : Int) (hp : Pm.ok ⟨0, n, d, r, l, b, g, k⟩) (ho : OrdR 5 N D V) (w : World) : Calls Tryz.prog 142 #[PV 0 n d r l b g k, .agg #[.int .i64 5, .int .i64 N, .int .i64 D, .int .i64 V]] w fun e w' => e = .returned (.tuple #[(Pm.take ⟨0, n, d, r, l, b, g, k⟩ 5 N D V).1.V, .bool (Pm.take ⟨0, n, d, r, l, b, g, k⟩ 5 N D V).2]) ∧ Below w.heap.size w w' := by
 have HT : Pm.take ⟨0, n, d, r, l, b, g, k⟩ 5 N D V = (⟨0, n, d, r, l, b, g, k⟩, false) := by unfold Pm.take; rw [or_yes ho, ok_yes hp]; simp
 rw [HT]
 exact (idlI_n 0 n d r l b g k 5 N D V rfl (fun w => (alwI_n 0 n d r l b g k 5 N D V rfl w)) w)
theorem tkW_5_1 (n d r l b g k N D V : Int) (hp : Pm.ok ⟨1, n, d, r, l, b, g, k⟩) (ho : OrdR 5 N D V) (w : World) : Calls Tryz.prog 133 #[PV 1 n d r l b g k, .agg #[.int .i64 5, .int .i64 N, .int .i64 D, .int .i64 V]] w fun e w' => e = .returned (.tuple #[(Pm.take ⟨1, n, d, r, l, b, g, k⟩ 5 N D V).1.V, .bool (Pm.take ⟨1, n, d, r, l, b, g, k⟩ 5 N D V).2]) ∧ Below w.heap.size w w' := by
 have HT : Pm.take ⟨1, n, d, r, l, b, g, k⟩ 5 N D V = (⟨1, n, d, r, l, b, g, k⟩, false) := by unfold Pm.take; rw [or_yes ho, ok_yes hp]; simp
 rw [HT]
 exact (runI_n 1 n d r l b g k 5 N D V rfl rfl (fun w => (alwI_n 1 n d r l b g k 5 N D V rfl w)) w)
theorem tkW_5_2 (n d r l b g k N D V : Int) (hp : Pm.ok ⟨2, n, d, r, l, b, g, k⟩) (ho : OrdR 5 N D V) (w : World) : Calls Tryz.prog 136 #[PV 2 n d r l b g k, .agg #[.int .i64 5, .int .i64 N, .int .i64 D, .int .i64 V]] w fun e w' => e = .returned (.tuple #[(Pm.take ⟨2, n, d, r, l, b, g, k⟩ 5 N D V).1.V, .bool (Pm.take ⟨2, n, d, r, l, b, g, k⟩ 5 N D V).2]) ∧ Below w.heap.size w w' := by
 have HT : Pm.take ⟨2, n, d, r, l, b, g, k⟩ 5 N D V = (⟨2, n, d, r, l, b, g, k⟩, false) := by unfold Pm.take; rw [or_yes ho, ok_yes hp]; simp
 rw [HT]
 exact (kepI_n 2 n d r l b g k 5 N D V rfl (fun w => (runI_n 2 n d r l b g k 5 N D V rfl rfl (fun w => (alwI_n 2 n d r l b g k 5 N D V rfl w)) w)) w)
theorem tkW_5_3 (n d r l b g k N D V : Int) (hp : Pm.ok ⟨3, n, d, r, l, b, g, k⟩) (ho : OrdR 5 N D V) (w : World) : Calls Tryz.prog 139 #[PV 3 n d r l b g k, .agg #[.int .i64 5, .int .i64 N, .int .i64 D, .int .i64 V]] w fun e w' => e = .returned (.tuple #[(Pm.take ⟨3, n, d, r, l, b, g, k⟩ 5 N D V).1.V, .bool (Pm.take ⟨3, n, d, r, l, b, g, k⟩ 5 N D V).2]) ∧ Below w.heap.size w w' := by
 have HT : Pm.take ⟨3, n, d, r, l, b, g, k⟩ 5 N D V = (⟨3, n, d, r, l, b, g, k⟩, false) := by unfold Pm.take; rw [or_yes ho, ok_yes hp]; simp
 rw [HT]
 exact (pauI_n 3 n d r l b g k 5 N D V rfl (fun w => (alwI_n 3 n d r l b g k 5 N D V rfl w)) w)
theorem tkW_6_0 (n d r l b g k N D V : Int) (hp : Pm.ok ⟨0, n, d, r, l, b, g, k⟩) (ho : OrdR 6 N D V) (w : World) : Calls Tryz.prog 142 #[PV 0 n d r l b g k, .agg #[.int .i64 6, .int .i64 N, .int .i64 D, .int .i64 V]] w fun e w' => e = .returned (.tuple #[(Pm.take ⟨0, n, d, r, l, b, g, k⟩ 6 N D V).1.V, .bool (Pm.take ⟨0, n, d, r, l, b, g, k⟩ 6 N D V).2]) ∧ Below w.heap.size w w' := by
 have HT : Pm.take ⟨0, n, d, r, l, b, g, k⟩ 6 N D V = (⟨0, n, d, r, 0, 0, g, 0⟩, true) := by unfold Pm.take; rw [or_yes ho, ok_yes hp]; simp
 rw [HT]
 exact (idlI_n 0 n d r l b g k 6 N D V rfl (fun w => (alwI_6 0 n d r l b g k N D V w)) w)
theorem tkW_6_1 (n d r l b g k N D V : Int) (hp : Pm.ok ⟨1, n, d, r, l, b, g, k⟩) (ho : OrdR 6 N D V) (w : World) : Calls Tryz.prog 133 #[PV 1 n d r l b g k, .agg #[.int .i64 6, .int .i64 N, .int .i64 D, .int .i64 V]] w fun e w' => e = .returned (.tuple #[(Pm.take ⟨1, n, d, r, l, b, g, k⟩ 6 N D V).1.V, .bool (Pm.take ⟨1, n, d, r, l, b, g, k⟩ 6 N D V).2]) ∧ Below w.heap.size w w' := by
 have HT : Pm.take ⟨1, n, d, r, l, b, g, k⟩ 6 N D V = (⟨0, n, d, r, 0, 0, g, 0⟩, true) := by unfold Pm.take; rw [or_yes ho, ok_yes hp]; simp
 rw [HT]
 exact (runI_n 1 n d r l b g k 6 N D V rfl rfl (fun w => (alwI_6 1 n d r l b g k N D V w)) w)
theorem tkW_6_2 (n d r l b g k N D V : Int) (hp : Pm.ok ⟨2, n, d, r, l, b, g, k⟩) (ho : OrdR 6 N D V) (w : World) : Calls Tryz.prog 136 #[PV 2 n d r l b g k, .agg #[.int .i64 6, .int .i64 N, .int .i64 D, .int .i64 V]] w fun e w' => e = .returned (.tuple #[(Pm.take ⟨2, n, d, r, l, b, g, k⟩ 6 N D V).1.V, .bool (Pm.take ⟨2, n, d, r, l, b, g, k⟩ 6 N D V).2]) ∧ Below w.heap.size w w' := by
 have HT : Pm.take ⟨2, n, d, r, l, b, g, k⟩ 6 N D V = (⟨0, n, d, r, 0, 0, g, 0⟩, true) := by unfold Pm.take; rw [or_yes ho, ok_yes hp]; simp
 rw [HT]
 exact (kepI_n 2 n d r l b g k 6 N D V rfl (fun w => (runI_n 2 n d r l b g k 6 N D V rfl rfl (fun w => (alwI_6 2 n d r l b g k N D V w)) w)) w)
theorem tkW_6_3 (n d r l b g k N D V : Int) (hp : Pm.ok ⟨3, n, d, r, l, b, g, k⟩) (ho : OrdR 6 N D V) (w : World) : Calls Tryz.prog 139 #[PV 3 n d r l b g k, .agg #[.int .i64 6, .int .i64 N, .int .i64 D, .int .i64 V]] w fun e w' => e = .returned (.tuple #[(Pm.take ⟨3, n, d, r, l, b, g, k⟩ 6 N D V).1.V, .bool (Pm.take ⟨3, n, d, r, l, b, g, k⟩ 6 N D V).2]) ∧ Below w.heap.size w w' := by
 have HT : Pm.take ⟨3, n, d, r, l, b, g, k⟩ 6 N D V = (⟨0, n, d, r, 0, 0, g, 0⟩, true) := by unfold Pm.take; rw [or_yes ho, ok_yes hp]; simp
 rw [HT]
 exact (pauI_n 3 n d r l b g k 6 N D V rfl (fun w => (alwI_6 3 n d r l b g k N D V w)) w)
theorem pulW_1 (n d r l b g k : Int) (hp : Pm.ok ⟨1, n, d, r, l, b, g, k⟩) (w : World) : Calls Tryz.prog 134 #[PV 1 n d r l b g k] w fun e w' => e = .returned (.int .i64 (Pm.wants ⟨1, n, d, r, l, b, g, k⟩)) ∧ Below w.heap.size w w' := by
 obtain ⟨y, hy⟩ : ∃ y, (r + n) / d = y := ⟨_, rfl⟩
 have hrt := rate_bd hp
 unfold Pm.rate at hrt
 dsimp only at hrt
 rw [hy] at hrt
 obtain ⟨y0, y1⟩ := hrt
 have hpb : (0 : Int) ≤ b ∧ b ≤ 100 := hp.2.2.2.2.2.1
 have hpl : (0 : Int) ≤ l ∧ l ≤ 5000 := hp.2.2.2.1
 have hpg : (0 : Int) ≤ g ∧ g ≤ 1000000000000 := hp.2.2.2.2.2.2.1
 obtain ⟨q, hq⟩ : ∃ q, min b 3 = q := ⟨_, rfl⟩
 have hrr : ratR n d r := hp.2.1
 have KR : Hid (∀ w, Calls Tryz.prog 185 #[.agg #[.int .i64 n, .int .i64 d, .int .i64 r]] w fun e w' => e = .returned (.tuple #[.agg #[.int .i64 n, .int .i64 d, .int .i64 ((r + n) % d)], .int .i64 y]) ∧ Below w.heap.size w w') := fun w => by
  have h := stepRI n d r w
  rw [show stepR n d r = (r + n) % d from if_pos hrr, show stepO n d r = y from (if_pos hrr).trans hy] at h
  exact h
 by_cases hm : y ≤ l
 ·
  have HT : Pm.wants ⟨1, n, d, r, l, b, g, k⟩ = y + q := by
   unfold Pm.wants Pm.base Pm.rate
   rw [ok_yes hp]
   simp [hy, hq]
   omega
  rw [HT]
  exact bpuI_y 1 n d r l b g k _ y q (y + q) KR hm hq (wrap_in (by omega) (by omega)) w
 ·
  have HT : Pm.wants ⟨1, n, d, r, l, b, g, k⟩ = l + q := by
   unfold Pm.wants Pm.base Pm.rate
   rw [ok_yes hp]
   simp [hy, hq]
   omega
  rw [HT]
  exact bpuI_l 1 n d r l b g k _ y q (l + q) KR hm hq (wrap_in (by omega) (by omega)) w
theorem pulW_2 (n d r l b g k : Int) (hp : Pm.ok ⟨2, n, d, r, l, b, g, k⟩) (w : World) : Calls Tryz.prog 137 #[PV 2 n d r l b g k] w fun e w' => e = .returned (.int .i64 (Pm.wants ⟨2, n, d, r, l, b, g, k⟩)) ∧ Below w.heap.size w w' := by
 obtain ⟨y, hy⟩ : ∃ y, (r + n) / d = y := ⟨_, rfl⟩
 have hrt := rate_bd hp
 unfold Pm.rate at hrt
 dsimp only at hrt
 rw [hy] at hrt
 obtain ⟨y0, y1⟩ := hrt
 have hpb : (0 : Int) ≤ b ∧ b ≤ 100 := hp.2.2.2.2.2.1
 have hpl : (0 : Int) ≤ l ∧ l ≤ 5000 := hp.2.2.2.1
 have hpg : (0 : Int) ≤ g ∧ g ≤ 1000000000000 := hp.2.2.2.2.2.2.1
 obtain ⟨q, hq⟩ : ∃ q, min b 3 = q := ⟨_, rfl⟩
 have hrr : ratR n d r := hp.2.1
 have KR : Hid (∀ w, Calls Tryz.prog 185 #[.agg #[.int .i64 n, .int .i64 d, .int .i64 r]] w fun e w' => e = .returned (.tuple #[.agg #[.int .i64 n, .int .i64 d, .int .i64 ((r + n) % d)], .int .i64 y]) ∧ Below w.heap.size w w') := fun w => by
  have h := stepRI n d r w
  rw [show stepR n d r = (r + n) % d from if_pos hrr, show stepO n d r = y from (if_pos hrr).trans hy] at h
  exact h
 have HT : Pm.wants ⟨2, n, d, r, l, b, g, k⟩ = y + q := by
  unfold Pm.wants Pm.base Pm.rate
  rw [ok_yes hp]
  simp [hy, hq]
 rw [HT]
 exact kpuI 2 n d r l b g k _ y q (y + q) KR hq (wrap_in (by omega) (by omega)) w
theorem gvW_1 (n d r l b g k m : Int) (hp : Pm.ok ⟨1, n, d, r, l, b, g, k⟩) (h0 : 0 ≤ m) (h1 : m ≤ Pm.wants ⟨1, n, d, r, l, b, g, k⟩) (w : World) : Calls Tryz.prog 135 #[PV 1 n d r l b g k, .int .i64 m] w fun e w' => e = .returned (Pm.give ⟨1, n, d, r, l, b, g, k⟩ m).V ∧ Below w.heap.size w w' := by
 obtain ⟨y, hy⟩ : ∃ y, (r + n) / d = y := ⟨_, rfl⟩
 have hrt := rate_bd hp
 unfold Pm.rate at hrt
 dsimp only at hrt
 rw [hy] at hrt
 obtain ⟨y0, y1⟩ := hrt
 have hpb : (0 : Int) ≤ b ∧ b ≤ 100 := hp.2.2.2.2.2.1
 have hpl : (0 : Int) ≤ l ∧ l ≤ 5000 := hp.2.2.2.1
 have hpg : (0 : Int) ≤ g ∧ g ≤ 1000000000000 := hp.2.2.2.2.2.2.1
 obtain ⟨q, hq⟩ : ∃ q, min b 3 = q := ⟨_, rfl⟩
 have hrr : ratR n d r := hp.2.1
 have KR : Hid (∀ w, Calls Tryz.prog 185 #[.agg #[.int .i64 n, .int .i64 d, .int .i64 r]] w fun e w' => e = .returned (.tuple #[.agg #[.int .i64 n, .int .i64 d, .int .i64 ((r + n) % d)], .int .i64 y]) ∧ Below w.heap.size w w') := fun w => by
  have h := stepRI n d r w
  rw [show stepR n d r = (r + n) % d from if_pos hrr, show stepO n d r = y from (if_pos hrr).trans hy] at h
  exact h
 obtain ⟨W, hW⟩ : ∃ W, Pm.wants ⟨1, n, d, r, l, b, g, k⟩ = W := ⟨_, rfl⟩
 have hwb := wants_bd ⟨1, n, d, r, l, b, g, k⟩
 have hwr := wants_run hp (Or.inl rfl)
 have hbb := base_bd hp
 dsimp only at hwr hbb
 rw [hW] at hwb hwr h1
 rw [hq] at hwr
 have hme : max (min m (Pm.wants ⟨1, n, d, r, l, b, g, k⟩)) 0 = m := by rw [hW]; omega
 have hm0 : 0 ≤ m ∧ m ≤ W := by omega
 have KA : Hid (∀ w, Calls Tryz.prog 186 #[.int .i64 g, .int .i64 m] w fun e w' => e = .returned (.int .i64 (min (g + m) 1000000000000)) ∧ Below w.heap.size w w') := fun w => addI g m g m (g + m) _ (show _ = _ from (by omega)) (show _ = _ from (by omega)) (wrap_in (by omega) (by omega)) (show _ = _ from (by omega)) w
 generalize Pm.base ⟨1, n, d, r, l, b, g, k⟩ = base at hwr hbb
 by_cases hmq : m ≤ q
 ·
  have hl0 : 0 < l := hp.2.2.2.2.1.2 (Or.inl rfl)
  have eL : IntKind.i64.wrap (l - 0) = l := (wrap_in (by omega) (by omega)).trans (by omega)
  have hLz : (l == 0) = false := by simp; omega
  have HT : Pm.give ⟨1, n, d, r, l, b, g, k⟩ m = ⟨1, n, d, ((r + n) % d), l, (b - m), (min (g + m) 1000000000000), k⟩ := by
   unfold Pm.give
   rw [ok_yes hp]
   unfold Pm.giveR
   dsimp only
   rw [hme, hq, show min m q = m from (by omega)]
   simp; omega
  rw [HT]
  exact gbI_n 1 n d r l b g k m 0 1 n d ((r + n) % d) l (b - m) (min (g + m) 1000000000000) k (fun w => tikI_a 1 n d r l b g k m ((r + n) % d) y q (b - m) (min (g + m) 1000000000000) KR KA hq hmq (wrap_in (by omega) (by omega)) w) (L := l) eL hLz w
 ·
  have hl0 : base ≤ l := hbb.2.2 rfl
  by_cases hz : l - (m - q) = 0
  ·
   have eL : IntKind.i64.wrap (l - (m - q)) = 0 := (wrap_in (by omega) (by omega)).trans (by omega)
   have HT : Pm.give ⟨1, n, d, r, l, b, g, k⟩ m = ⟨2, 1, 50, 0, 0, (b - q), (min (g + m) 1000000000000), k⟩ := by
    unfold Pm.give
    rw [ok_yes hp]
    unfold Pm.giveR
    dsimp only
    rw [hme, hq, show min m q = q from (by omega)]
    simp [hz]
   rw [HT]
   exact gbI_0 1 n d r l b g k m (m - q) 1 n d ((r + n) % d) l (b - q) (min (g + m) 1000000000000) k (fun w => tikI_q 1 n d r l b g k m ((r + n) % d) y q (b - q) (min (g + m) 1000000000000) (m - q) KR KA hq hmq (wrap_in (by omega) (by omega)) (wrap_in (by omega) (by omega)) w) eL w
  ·
   have eL : IntKind.i64.wrap (l - (m - q)) = (l - (m - q)) := (wrap_in (by omega) (by omega)).trans (by omega)
   have hLz : ((l - (m - q)) == 0) = false := by simp; omega
   have HT : Pm.give ⟨1, n, d, r, l, b, g, k⟩ m = ⟨1, n, d, ((r + n) % d), (l - (m - q)), (b - q), (min (g + m) 1000000000000), k⟩ := by
    unfold Pm.give
    rw [ok_yes hp]
    unfold Pm.giveR
    dsimp only
    rw [hme, hq, show min m q = q from (by omega)]
    simp [hz]
   rw [HT]
   exact gbI_n 1 n d r l b g k m (m - q) 1 n d ((r + n) % d) l (b - q) (min (g + m) 1000000000000) k (fun w => tikI_q 1 n d r l b g k m ((r + n) % d) y q (b - q) (min (g + m) 1000000000000) (m - q) KR KA hq hmq (wrap_in (by omega) (by omega)) (wrap_in (by omega) (by omega)) w) (L := (l - (m - q))) eL hLz w
theorem gvW_2 (n d r l b g k m : Int) (hp : Pm.ok ⟨2, n, d, r, l, b, g, k⟩) (h0 : 0 ≤ m) (h1 : m ≤ Pm.wants ⟨2, n, d, r, l, b, g, k⟩) (w : World) : Calls Tryz.prog 138 #[PV 2 n d r l b g k, .int .i64 m] w fun e w' => e = .returned (Pm.give ⟨2, n, d, r, l, b, g, k⟩ m).V ∧ Below w.heap.size w w' := by
 obtain ⟨y, hy⟩ : ∃ y, (r + n) / d = y := ⟨_, rfl⟩
 have hrt := rate_bd hp
 unfold Pm.rate at hrt
 dsimp only at hrt
 rw [hy] at hrt
 obtain ⟨y0, y1⟩ := hrt
 have hpb : (0 : Int) ≤ b ∧ b ≤ 100 := hp.2.2.2.2.2.1
 have hpl : (0 : Int) ≤ l ∧ l ≤ 5000 := hp.2.2.2.1
 have hpg : (0 : Int) ≤ g ∧ g ≤ 1000000000000 := hp.2.2.2.2.2.2.1
 obtain ⟨q, hq⟩ : ∃ q, min b 3 = q := ⟨_, rfl⟩
 have hrr : ratR n d r := hp.2.1
 have KR : Hid (∀ w, Calls Tryz.prog 185 #[.agg #[.int .i64 n, .int .i64 d, .int .i64 r]] w fun e w' => e = .returned (.tuple #[.agg #[.int .i64 n, .int .i64 d, .int .i64 ((r + n) % d)], .int .i64 y]) ∧ Below w.heap.size w w') := fun w => by
  have h := stepRI n d r w
  rw [show stepR n d r = (r + n) % d from if_pos hrr, show stepO n d r = y from (if_pos hrr).trans hy] at h
  exact h
 obtain ⟨W, hW⟩ : ∃ W, Pm.wants ⟨2, n, d, r, l, b, g, k⟩ = W := ⟨_, rfl⟩
 have hwb := wants_bd ⟨2, n, d, r, l, b, g, k⟩
 have hwr := wants_run hp (Or.inr rfl)
 have hbb := base_bd hp
 dsimp only at hwr hbb
 rw [hW] at hwb hwr h1
 rw [hq] at hwr
 have hme : max (min m (Pm.wants ⟨2, n, d, r, l, b, g, k⟩)) 0 = m := by rw [hW]; omega
 have hm0 : 0 ≤ m ∧ m ≤ W := by omega
 have KA : Hid (∀ w, Calls Tryz.prog 186 #[.int .i64 g, .int .i64 m] w fun e w' => e = .returned (.int .i64 (min (g + m) 1000000000000)) ∧ Below w.heap.size w w') := fun w => addI g m g m (g + m) _ (show _ = _ from (by omega)) (show _ = _ from (by omega)) (wrap_in (by omega) (by omega)) (show _ = _ from (by omega)) w
 generalize Pm.base ⟨2, n, d, r, l, b, g, k⟩ = base at hwr hbb
 by_cases hmq : m ≤ q
 ·
  have HT : Pm.give ⟨2, n, d, r, l, b, g, k⟩ m = ⟨2, n, d, ((r + n) % d), l, (b - m), (min (g + m) 1000000000000), k⟩ := by
   unfold Pm.give
   rw [ok_yes hp]
   unfold Pm.giveR
   dsimp only
   rw [hme, hq, show min m q = m from (by omega)]
   simp
  rw [HT]
  exact gkI 2 n d r l b g k m 0 2 n d ((r + n) % d) l (b - m) (min (g + m) 1000000000000) k (fun w => tikI_a 2 n d r l b g k m ((r + n) % d) y q (b - m) (min (g + m) 1000000000000) KR KA hq hmq (wrap_in (by omega) (by omega)) w) w
 ·
  have HT : Pm.give ⟨2, n, d, r, l, b, g, k⟩ m = ⟨2, n, d, ((r + n) % d), l, (b - q), (min (g + m) 1000000000000), k⟩ := by
   unfold Pm.give
   rw [ok_yes hp]
   unfold Pm.giveR
   dsimp only
   rw [hme, hq, show min m q = q from (by omega)]
   simp
  rw [HT]
  exact gkI 2 n d r l b g k m (m - q) 2 n d ((r + n) % d) l (b - q) (min (g + m) 1000000000000) k (fun w => tikI_q 2 n d r l b g k m ((r + n) % d) y q (b - q) (min (g + m) 1000000000000) (m - q) KR KA hq hmq (wrap_in (by omega) (by omega)) (wrap_in (by omega) (by omega)) w) w
structure StP (p : Pm) (T P G : Nat) : Prop where
 ct : ∀ args w, (callFunc T args).run Tryz.prog w = .ok (.enter T args) w
 cp : ∀ args w, (callFunc P args).run Tryz.prog w = .ok (.enter P args) w
 cg : ∀ args w, (callFunc G args).run Tryz.prog w = .ok (.enter G args) w
 st : ∀ w, Calls Tryz.prog 83 #[.agg #[.int .i64 p.s, .int .i64 p.n, .int .i64 p.d, .int .i64 p.r, .int .i64 p.l, .int .i64 p.b, .int .i64 p.g, .int .i64 p.k]] w fun e w' => e = .returned (.agg #[.func (.func T) #[.agg #[.int .i64 p.s, .int .i64 p.n, .int .i64 p.d, .int .i64 p.r, .int .i64 p.l, .int .i64 p.b, .int .i64 p.g, .int .i64 p.k]] #[], .func (.func P) #[.agg #[.int .i64 p.s, .int .i64 p.n, .int .i64 p.d, .int .i64 p.r, .int .i64 p.l, .int .i64 p.b, .int .i64 p.g, .int .i64 p.k]] #[], .func (.func G) #[.agg #[.int .i64 p.s, .int .i64 p.n, .int .i64 p.d, .int .i64 p.r, .int .i64 p.l, .int .i64 p.b, .int .i64 p.g, .int .i64 p.k]] #[]]) ∧ Below w.heap.size w w'
 tk : ∀ K N D V w, OrdR K N D V → Calls Tryz.prog T #[.agg #[.int .i64 p.s, .int .i64 p.n, .int .i64 p.d, .int .i64 p.r, .int .i64 p.l, .int .i64 p.b, .int .i64 p.g, .int .i64 p.k], .agg #[.int .i64 K, .int .i64 N, .int .i64 D, .int .i64 V]] w fun e w' => e = .returned (.tuple #[(p.take K N D V).1.V, .bool (p.take K N D V).2]) ∧ Below w.heap.size w w'
 pu : ∀ w, Calls Tryz.prog P #[.agg #[.int .i64 p.s, .int .i64 p.n, .int .i64 p.d, .int .i64 p.r, .int .i64 p.l, .int .i64 p.b, .int .i64 p.g, .int .i64 p.k]] w fun e w' => e = .returned (.int .i64 p.wants) ∧ Below w.heap.size w w'
 gv : ∀ m w, 0 ≤ m → m ≤ p.wants → Calls Tryz.prog G #[.agg #[.int .i64 p.s, .int .i64 p.n, .int .i64 p.d, .int .i64 p.r, .int .i64 p.l, .int .i64 p.b, .int .i64 p.g, .int .i64 p.k], .int .i64 m] w fun e w' => e = .returned (p.give m).V ∧ Below w.heap.size w w'
theorem stateW (p : Pm) (hp : p.ok) : ∃ T P G, StP p T P G := by
 obtain ⟨s, n, d, r, l, b, g, k⟩ := p
 have hs : s = 0 ∨ s = 1 ∨ s = 2 ∨ s = 3 := by have := hp.1; dsimp only at this; omega
 have hb : 0 ≤ b := hp.2.2.2.2.2.1.1
 rcases hs with rfl | rfl | rfl | rfl
 ·
  refine ⟨142, 140, 141, fun args w => by kernel_rfl, fun args w => by kernel_rfl, fun args w => by kernel_rfl, fun w => stI_0 n d r l b g k w, fun K N D V w ho => ?_, fun w => ?_, fun m w h0 h1 => ?_⟩
  ·
   have hk : K = 1 ∨ K = 2 ∨ K = 3 ∨ K = 4 ∨ K = 5 ∨ K = 6 := by have := ho.bd; omega
   rcases hk with rfl | rfl | rfl | rfl | rfl | rfl
   · exact tkW_1_0 n d r l b g k N D V hp ho w
   · exact tkW_2_0 n d r l b g k N D V hp ho w
   · exact tkW_3_0 n d r l b g k N D V hp ho w
   · exact tkW_4_0 n d r l b g k N D V hp ho w
   · exact tkW_5_0 n d r l b g k N D V hp ho w
   · exact tkW_6_0 n d r l b g k N D V hp ho w
  ·
   have HT : Pm.wants ⟨0, n, d, r, l, b, g, k⟩ = 0 := by unfold Pm.wants; simp
   rw [HT]
   exact npI 0 n d r l b g k w
  ·
   have HT : Pm.give ⟨0, n, d, r, l, b, g, k⟩ m = ⟨0, n, d, r, l, b, g, k⟩ := by unfold Pm.give; simp
   rw [HT]
   exact nothI 0 n d r l b g k m w
 ·
  refine ⟨133, 134, 135, fun args w => by kernel_rfl, fun args w => by kernel_rfl, fun args w => by kernel_rfl, fun w => stI_1 n d r l b g k w, fun K N D V w ho => ?_, fun w => ?_, fun m w h0 h1 => ?_⟩
  ·
   have hk : K = 1 ∨ K = 2 ∨ K = 3 ∨ K = 4 ∨ K = 5 ∨ K = 6 := by have := ho.bd; omega
   rcases hk with rfl | rfl | rfl | rfl | rfl | rfl
   · exact tkW_1_1 n d r l b g k N D V hp ho w
   ·
    by_cases hb0 : 0 < b
    · exact tkW_2_1b1 n d r l b g k N D V hp ho hb0 w
    ·
     obtain rfl : b = 0 := by omega
     exact tkW_2_1b0 n d r l g k N D V hp ho w
   · exact tkW_3_1 n d r l b g k N D V hp ho w
   · exact tkW_4_1 n d r l b g k N D V hp ho w
   · exact tkW_5_1 n d r l b g k N D V hp ho w
   · exact tkW_6_1 n d r l b g k N D V hp ho w
  · exact pulW_1 n d r l b g k hp w
  · exact gvW_1 n d r l b g k m hp h0 h1 w
 ·
  refine ⟨136, 137, 138, fun args w => by kernel_rfl, fun args w => by kernel_rfl, fun args w => by kernel_rfl, fun w => stI_2 n d r l b g k w, fun K N D V w ho => ?_, fun w => ?_, fun m w h0 h1 => ?_⟩
  ·
   have hk : K = 1 ∨ K = 2 ∨ K = 3 ∨ K = 4 ∨ K = 5 ∨ K = 6 := by have := ho.bd; omega
   rcases hk with rfl | rfl | rfl | rfl | rfl | rfl
   · exact tkW_1_2 n d r l b g k N D V hp ho w
   ·
    by_cases hb0 : 0 < b
    · exact tkW_2_2b1 n d r l b g k N D V hp ho hb0 w
    ·
     obtain rfl : b = 0 := by omega
     exact tkW_2_2b0 n d r l g k N D V hp ho w
   · exact tkW_3_2 n d r l b g k N D V hp ho w
   · exact tkW_4_2 n d r l b g k N D V hp ho w
   · exact tkW_5_2 n d r l b g k N D V hp ho w
   · exact tkW_6_2 n d r l b g k N D V hp ho w
  · exact pulW_2 n d r l b g k hp w
  · exact gvW_2 n d r l b g k m hp h0 h1 w
 ·
  refine ⟨139, 140, 141, fun args w => by kernel_rfl, fun args w => by kernel_rfl, fun args w => by kernel_rfl, fun w => stI_3 n d r l b g k w, fun K N D V w ho => ?_, fun w => ?_, fun m w h0 h1 => ?_⟩
  ·
   have hk : K = 1 ∨ K = 2 ∨ K = 3 ∨ K = 4 ∨ K = 5 ∨ K = 6 := by have := ho.bd; omega
   rcases hk with rfl | rfl | rfl | rfl | rfl | rfl
   · exact tkW_1_3 n d r l b g k N D V hp ho w
   · exact tkW_2_3 n d r l b g k N D V hp ho w
   · exact tkW_3_3 n d r l b g k N D V hp ho w
   · exact tkW_4_3 n d r l b g k N D V hp ho w
   · exact tkW_5_3 n d r l b g k N D V hp ho w
   · exact tkW_6_3 n d r l b g k N D V hp ho w
  ·
   have HT : Pm.wants ⟨3, n, d, r, l, b, g, k⟩ = 0 := by unfold Pm.wants; simp
   rw [HT]
   exact npI 3 n d r l b g k w
  ·
   have HT : Pm.give ⟨3, n, d, r, l, b, g, k⟩ m = ⟨3, n, d, r, l, b, g, k⟩ := by unfold Pm.give; simp
   rw [HT]
   exact nothI 3 n d r l b g k m w
end Go.Proofs.YtfhhnelffldggaaGreatDoor
