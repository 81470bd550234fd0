/-
  The program's pump: PumpNew, PumpOk, Take, Wants, Give.
-/
import Derived.Test.YtpjnmkijndmemaaSpGv
import Derived.Test.YtpjnmkijndmemaaSpTk
import Derived.Test.YtpjnmkijndmemaaPmIok
import Derived.Test.YtpjnmkijndmemaaPmIt
import Derived.Test.YtpjnmkijndmemaaPmIg
import Derived.Test.YtpjnmkijndmemaaPmIj
namespace Go.Proofs.Ytpjnmkijndmemaa
open Go.RowKit Go.PlainAid
set_option linter.unusedVariables false
set_option linter.unusedSimpArgs false

set_option maxRecDepth 100000 in
set_option maxHeartbeats 1000000 in
theorem newI (w : World) : Calls Try.prog 24 #[] w fun e w' => e = .returned newP.V ∧ Below w.heap.size w w' := by
  have HB0 : Hid (Below w.heap.size w (w.alloc (.cells #[.int .i64 0, .int .i64 0, .int .i64 0, .int .i64 0, .int .i64 0, .int .i64 0, .int .i64 0, .int .i64 0] 27))) := alP _ _
  have HZ0 : Hid ((w.alloc (.cells #[.int .i64 0, .int .i64 0, .int .i64 0, .int .i64 0, .int .i64 0, .int .i64 0, .int .i64 0, .int .i64 0] 27)).heap[w.heap.size]? = some (.cells #[.int .i64 0, .int .i64 0, .int .i64 0, .int .i64 0, .int .i64 0, .int .i64 0, .int .i64 0, .int .i64 0] 27)) := heap_new w _
  go_enter Try.func24, Try.ntmps24
  go_upto_region 1 with fail
  go_wp2_with (refine listStoreP rfl rfl _ _ _ rfl rfl w.heap.size 0 0 1 0 0 0 0 0 rfl rfl HZ0.out ?_)
  intro w9 hr9 ho9 hs9 hB9
  have HF : Hid (Below w.heap.size w w9) := hB9 _ _ (Nat.le_refl _) HB0.out
  obtain ⟨⟨q0, q1, q2, q3, q4, q5, q6, q7⟩, _⟩ := box8_cells hr9
  clear ho9 hs9 hB9 hr9
  go_wp2
  refine bodyPost_ret (v := newP.V) (by simp only [results, Try.results24]; simp [go_sem, q0, q1, q2, q3, q4, q5, q6, q7, newP, Pm.V]) rfl ⟨rfl, HF.out⟩
theorem takeI_p (s n d r l b g k K N D V : Int) (hp : ¬ Pm.ok ⟨s, n, d, r, l, b, g, k⟩) (w : World) : Calls Try.prog 16 #[.agg #[.int .i64 s, .int .i64 n, .int .i64 d, .int .i64 r, .int .i64 l, .int .i64 b, .int .i64 g, .int .i64 k], .agg #[.int .i64 K, .int .i64 N, .int .i64 D, .int .i64 V]] w fun e w' => e = .returned (.tuple #[(Pm.take ⟨s, n, d, r, l, b, g, k⟩ K N D V).1.V, .bool (Pm.take ⟨s, n, d, r, l, b, g, k⟩ K N D V).2]) ∧ Below w.heap.size w w' := by
  have HT : Pm.take ⟨s, n, d, r, l, b, g, k⟩ K N D V = (⟨s, n, d, r, l, b, g, k⟩, false) := by unfold Pm.take; rw [ok_no hp]; simp
  rw [HT]
  exact tkI_p s n d r l b g k K N D V (fun w => pumpokI ⟨s, n, d, r, l, b, g, k⟩ false ⟨fun h => (by cases h), fun h => absurd h hp⟩ w) w
theorem takeI_o (s n d r l b g k K N D V : Int) (hp : Pm.ok ⟨s, n, d, r, l, b, g, k⟩) (ho : ¬ OrdR K N D V) (w : World) : Calls Try.prog 16 #[.agg #[.int .i64 s, .int .i64 n, .int .i64 d, .int .i64 r, .int .i64 l, .int .i64 b, .int .i64 g, .int .i64 k], .agg #[.int .i64 K, .int .i64 N, .int .i64 D, .int .i64 V]] w fun e w' => e = .returned (.tuple #[(Pm.take ⟨s, n, d, r, l, b, g, k⟩ K N D V).1.V, .bool (Pm.take ⟨s, n, d, r, l, b, g, k⟩ K N D V).2]) ∧ Below w.heap.size w w' := by
  have HT : Pm.take ⟨s, n, d, r, l, b, g, k⟩ K N D V = (⟨s, n, d, r, l, b, g, k⟩, false) := by unfold Pm.take; rw [or_no ho]; simp
  rw [HT]
  exact tkI_o s n d r l b g k K N D V (fun w => pumpokI ⟨s, n, d, r, l, b, g, k⟩ true ⟨fun _ => hp, fun _ => rfl⟩ w) (fun w => ordokI K N D V false ⟨fun h => (by cases h), fun h => absurd h ho⟩ w) w
theorem takeI_1_0 (n d r l b g k N D V : Int) (hp : Pm.ok ⟨0, n, d, r, l, b, g, k⟩) (ho : OrdR 1 N D V) (w : World) : Calls Try.prog 16 #[.agg #[.int .i64 0, .int .i64 n, .int .i64 d, .int .i64 r, .int .i64 l, .int .i64 b, .int .i64 g, .int .i64 k], .agg #[.int .i64 1, .int .i64 N, .int .i64 D, .int .i64 V]] w fun e w' => e = .returned (.tuple #[(Pm.take ⟨0, n, d, r, l, b, g, k⟩ 1 N D V).1.V, .bool (Pm.take ⟨0, n, d, r, l, b, g, k⟩ 1 N D V).2]) ∧ Below w.heap.size w w' := by
  have HT : Pm.take ⟨0, n, d, r, l, b, g, k⟩ 1 N D V = (⟨1, N, D, 0, V, b, g, k⟩, true) := by unfold Pm.take; rw [or_yes ho, ok_yes hp]; simp
  have KP : Hid (∀ w, Calls Try.prog 21 #[.agg #[.int .i64 0, .int .i64 n, .int .i64 d, .int .i64 r, .int .i64 l, .int .i64 b, .int .i64 g, .int .i64 k]] w fun e w' => e = .returned (.bool true) ∧ Below w.heap.size w w') := fun w => pumpokI ⟨0, n, d, r, l, b, g, k⟩ true ⟨fun _ => hp, fun _ => rfl⟩ w
  have KO : Hid (∀ w, Calls Try.prog 34 #[.agg #[.int .i64 1, .int .i64 N, .int .i64 D, .int .i64 V]] w fun e w' => e = .returned (.bool true) ∧ Below w.heap.size w w') := fun w => ordokI 1 N D V true ⟨fun _ => ho, fun _ => rfl⟩ w
  rw [HT]
  exact tkI_0 n d r l b g k 1 N D V (1) (N) (D) (0) (V) (b) (g) (k) (y := true) KP KO (fun w => (idlI_1 0 n d r l b g k N D V (fun w => stdI 0 n d r l b g k 1 N D V w) w)) w
theorem takeI_1_1 (n d r l b g k N D V : Int) (hp : Pm.ok ⟨1, n, d, r, l, b, g, k⟩) (ho : OrdR 1 N D V) (w : World) : Calls Try.prog 16 #[.agg #[.int .i64 1, .int .i64 n, .int .i64 d, .int .i64 r, .int .i64 l, .int .i64 b, .int .i64 g, .int .i64 k], .agg #[.int .i64 1, .int .i64 N, .int .i64 D, .int .i64 V]] w fun e w' => e = .returned (.tuple #[(Pm.take ⟨1, n, d, r, l, b, g, k⟩ 1 N D V).1.V, .bool (Pm.take ⟨1, n, d, r, l, b, g, k⟩ 1 N D V).2]) ∧ Below w.heap.size w w' := by
  have HT : Pm.take ⟨1, n, d, r, l, b, g, k⟩ 1 N D V = (⟨1, n, d, r, l, b, g, k⟩, false) := by unfold Pm.take; rw [or_yes ho, ok_yes hp]; simp
  have KP : Hid (∀ w, Calls Try.prog 21 #[.agg #[.int .i64 1, .int .i64 n, .int .i64 d, .int .i64 r, .int .i64 l, .int .i64 b, .int .i64 g, .int .i64 k]] w fun e w' => e = .returned (.bool true) ∧ Below w.heap.size w w') := fun w => pumpokI ⟨1, n, d, r, l, b, g, k⟩ true ⟨fun _ => hp, fun _ => rfl⟩ w
  have KO : Hid (∀ w, Calls Try.prog 34 #[.agg #[.int .i64 1, .int .i64 N, .int .i64 D, .int .i64 V]] w fun e w' => e = .returned (.bool true) ∧ Below w.heap.size w w') := fun w => ordokI 1 N D V true ⟨fun _ => ho, fun _ => rfl⟩ w
  rw [HT]
  exact tkI_1 n d r l b g k 1 N D V (1) (n) (d) (r) (l) (b) (g) (k) (y := false) KP KO (fun w => (runI_n 1 n d r l b g k 1 N D V rfl rfl (fun w => (alwI_n 1 n d r l b g k 1 N D V rfl w)) w)) w
theorem takeI_1_2 (n d r l b g k N D V : Int) (hp : Pm.ok ⟨2, n, d, r, l, b, g, k⟩) (ho : OrdR 1 N D V) (w : World) : Calls Try.prog 16 #[.agg #[.int .i64 2, .int .i64 n, .int .i64 d, .int .i64 r, .int .i64 l, .int .i64 b, .int .i64 g, .int .i64 k], .agg #[.int .i64 1, .int .i64 N, .int .i64 D, .int .i64 V]] w fun e w' => e = .returned (.tuple #[(Pm.take ⟨2, n, d, r, l, b, g, k⟩ 1 N D V).1.V, .bool (Pm.take ⟨2, n, d, r, l, b, g, k⟩ 1 N D V).2]) ∧ Below w.heap.size w w' := by
  have HT : Pm.take ⟨2, n, d, r, l, b, g, k⟩ 1 N D V = (⟨1, N, D, 0, V, b, g, k⟩, true) := by unfold Pm.take; rw [or_yes ho, ok_yes hp]; simp
  have KP : Hid (∀ w, Calls Try.prog 21 #[.agg #[.int .i64 2, .int .i64 n, .int .i64 d, .int .i64 r, .int .i64 l, .int .i64 b, .int .i64 g, .int .i64 k]] w fun e w' => e = .returned (.bool true) ∧ Below w.heap.size w w') := fun w => pumpokI ⟨2, n, d, r, l, b, g, k⟩ true ⟨fun _ => hp, fun _ => rfl⟩ w
  have KO : Hid (∀ w, Calls Try.prog 34 #[.agg #[.int .i64 1, .int .i64 N, .int .i64 D, .int .i64 V]] w fun e w' => e = .returned (.bool true) ∧ Below w.heap.size w w') := fun w => ordokI 1 N D V true ⟨fun _ => ho, fun _ => rfl⟩ w
  rw [HT]
  exact tkI_2 n d r l b g k 1 N D V (1) (N) (D) (0) (V) (b) (g) (k) (y := true) KP KO (fun w => (kepI_1 2 n d r l b g k N D V (fun w => stdI 2 n d r l b g k 1 N D V w) w)) w
theorem takeI_1_3 (n d r l b g k N D V : Int) (hp : Pm.ok ⟨3, n, d, r, l, b, g, k⟩) (ho : OrdR 1 N D V) (w : World) : Calls Try.prog 16 #[.agg #[.int .i64 3, .int .i64 n, .int .i64 d, .int .i64 r, .int .i64 l, .int .i64 b, .int .i64 g, .int .i64 k], .agg #[.int .i64 1, .int .i64 N, .int .i64 D, .int .i64 V]] w fun e w' => e = .returned (.tuple #[(Pm.take ⟨3, n, d, r, l, b, g, k⟩ 1 N D V).1.V, .bool (Pm.take ⟨3, n, d, r, l, b, g, k⟩ 1 N D V).2]) ∧ Below w.heap.size w w' := by
  have HT : Pm.take ⟨3, n, d, r, l, b, g, k⟩ 1 N D V = (⟨3, n, d, r, l, b, g, k⟩, false) := by unfold Pm.take; rw [or_yes ho, ok_yes hp]; simp
  have KP : Hid (∀ w, Calls Try.prog 21 #[.agg #[.int .i64 3, .int .i64 n, .int .i64 d, .int .i64 r, .int .i64 l, .int .i64 b, .int .i64 g, .int .i64 k]] w fun e w' => e = .returned (.bool true) ∧ Below w.heap.size w w') := fun w => pumpokI ⟨3, n, d, r, l, b, g, k⟩ true ⟨fun _ => hp, fun _ => rfl⟩ w
  have KO : Hid (∀ w, Calls Try.prog 34 #[.agg #[.int .i64 1, .int .i64 N, .int .i64 D, .int .i64 V]] w fun e w' => e = .returned (.bool true) ∧ Below w.heap.size w w') := fun w => ordokI 1 N D V true ⟨fun _ => ho, fun _ => rfl⟩ w
  rw [HT]
  exact tkI_3 n d r l b g k 1 N D V (3) (n) (d) (r) (l) (b) (g) (k) (y := false) KP KO (fun w => (pauI_n 3 n d r l b g k 1 N D V rfl (fun w => (alwI_n 3 n d r l b g k 1 N D V rfl w)) w)) w
theorem takeI_2_0 (n d r l b g k N D V : Int) (hp : Pm.ok ⟨0, n, d, r, l, b, g, k⟩) (ho : OrdR 2 N D V) (w : World) : Calls Try.prog 16 #[.agg #[.int .i64 0, .int .i64 n, .int .i64 d, .int .i64 r, .int .i64 l, .int .i64 b, .int .i64 g, .int .i64 k], .agg #[.int .i64 2, .int .i64 N, .int .i64 D, .int .i64 V]] w fun e w' => e = .returned (.tuple #[(Pm.take ⟨0, n, d, r, l, b, g, k⟩ 2 N D V).1.V, .bool (Pm.take ⟨0, n, d, r, l, b, g, k⟩ 2 N D V).2]) ∧ Below w.heap.size w w' := by
  have HT : Pm.take ⟨0, n, d, r, l, b, g, k⟩ 2 N D V = (⟨0, n, d, r, l, b, g, k⟩, false) := by unfold Pm.take; rw [or_yes ho, ok_yes hp]; simp
  have KP : Hid (∀ w, Calls Try.prog 21 #[.agg #[.int .i64 0, .int .i64 n, .int .i64 d, .int .i64 r, .int .i64 l, .int .i64 b, .int .i64 g, .int .i64 k]] w fun e w' => e = .returned (.bool true) ∧ Below w.heap.size w w') := fun w => pumpokI ⟨0, n, d, r, l, b, g, k⟩ true ⟨fun _ => hp, fun _ => rfl⟩ w
  have KO : Hid (∀ w, Calls Try.prog 34 #[.agg #[.int .i64 2, .int .i64 N, .int .i64 D, .int .i64 V]] w fun e w' => e = .returned (.bool true) ∧ Below w.heap.size w w') := fun w => ordokI 2 N D V true ⟨fun _ => ho, fun _ => rfl⟩ w
  rw [HT]
  exact tkI_0 n d r l b g k 2 N D V (0) (n) (d) (r) (l) (b) (g) (k) (y := false) KP KO (fun w => (idlI_n 0 n d r l b g k 2 N D V rfl (fun w => (alwI_n 0 n d r l b g k 2 N D V rfl w)) w)) w
theorem takeI_2_1b0 (n d r l g k N D V : Int) (hp : Pm.ok ⟨1, n, d, r, l, 0, g, k⟩) (ho : OrdR 2 N D V) (w : World) : Calls Try.prog 16 #[.agg #[.int .i64 1, .int .i64 n, .int .i64 d, .int .i64 r, .int .i64 l, .int .i64 0, .int .i64 g, .int .i64 k], .agg #[.int .i64 2, .int .i64 N, .int .i64 D, .int .i64 V]] w fun e w' => e = .returned (.tuple #[(Pm.take ⟨1, n, d, r, l, 0, g, k⟩ 2 N D V).1.V, .bool (Pm.take ⟨1, n, d, r, l, 0, g, k⟩ 2 N D V).2]) ∧ Below w.heap.size w w' := by
  have HT : Pm.take ⟨1, n, d, r, l, 0, g, k⟩ 2 N D V = (⟨1, n, d, r, l, V, g, k⟩, true) := by unfold Pm.take; rw [or_yes ho, ok_yes hp]; simp
  have KP : Hid (∀ w, Calls Try.prog 21 #[.agg #[.int .i64 1, .int .i64 n, .int .i64 d, .int .i64 r, .int .i64 l, .int .i64 0, .int .i64 g, .int .i64 k]] w fun e w' => e = .returned (.bool true) ∧ Below w.heap.size w w') := fun w => pumpokI ⟨1, n, d, r, l, 0, g, k⟩ true ⟨fun _ => hp, fun _ => rfl⟩ w
  have KO : Hid (∀ w, Calls Try.prog 34 #[.agg #[.int .i64 2, .int .i64 N, .int .i64 D, .int .i64 V]] w fun e w' => e = .returned (.bool true) ∧ Below w.heap.size w w') := fun w => ordokI 2 N D V true ⟨fun _ => ho, fun _ => rfl⟩ w
  rw [HT]
  exact tkI_1 n d r l 0 g k 2 N D V (1) (n) (d) (r) (l) (V) (g) (k) (y := true) KP KO (fun w => (runI_2 1 n d r l 0 g k N D V (fun w => wbI_0 1 n d r l g k 2 N D V w) w)) w
theorem takeI_2_1b1 (n d r l b g k N D V : Int) (hp : Pm.ok ⟨1, n, d, r, l, b, g, k⟩) (ho : OrdR 2 N D V) (hb0 : 0 < b) (w : World) : Calls Try.prog 16 #[.agg #[.int .i64 1, .int .i64 n, .int .i64 d, .int .i64 r, .int .i64 l, .int .i64 b, .int .i64 g, .int .i64 k], .agg #[.int .i64 2, .int .i64 N, .int .i64 D, .int .i64 V]] w fun e w' => e = .returned (.tuple #[(Pm.take ⟨1, n, d, r, l, b, g, k⟩ 2 N D V).1.V, .bool (Pm.take ⟨1, n, d, r, l, b, g, k⟩ 2 N D V).2]) ∧ Below w.heap.size w w' := by
  have HT : Pm.take ⟨1, n, d, r, l, b, g, k⟩ 2 N D V = (⟨1, n, d, r, l, b, g, k⟩, false) := by unfold Pm.take; rw [or_yes ho, ok_yes hp]; simp [hb0]
  have KP : Hid (∀ w, Calls Try.prog 21 #[.agg #[.int .i64 1, .int .i64 n, .int .i64 d, .int .i64 r, .int .i64 l, .int .i64 b, .int .i64 g, .int .i64 k]] w fun e w' => e = .returned (.bool true) ∧ Below w.heap.size w w') := fun w => pumpokI ⟨1, n, d, r, l, b, g, k⟩ true ⟨fun _ => hp, fun _ => rfl⟩ w
  have KO : Hid (∀ w, Calls Try.prog 34 #[.agg #[.int .i64 2, .int .i64 N, .int .i64 D, .int .i64 V]] w fun e w' => e = .returned (.bool true) ∧ Below w.heap.size w w') := fun w => ordokI 2 N D V true ⟨fun _ => ho, fun _ => rfl⟩ w
  have hbn : (b != 0) = true := by simp; omega
  rw [HT]
  exact tkI_1 n d r l b g k 2 N D V (1) (n) (d) (r) (l) (b) (g) (k) (y := false) KP KO (fun w => (runI_2 1 n d r l b g k N D V (fun w => wbI_n 1 n d r l b g k 2 N D V hbn w) w)) w
theorem takeI_2_2b0 (n d r l g k N D V : Int) (hp : Pm.ok ⟨2, n, d, r, l, 0, g, k⟩) (ho : OrdR 2 N D V) (w : World) : Calls Try.prog 16 #[.agg #[.int .i64 2, .int .i64 n, .int .i64 d, .int .i64 r, .int .i64 l, .int .i64 0, .int .i64 g, .int .i64 k], .agg #[.int .i64 2, .int .i64 N, .int .i64 D, .int .i64 V]] w fun e w' => e = .returned (.tuple #[(Pm.take ⟨2, n, d, r, l, 0, g, k⟩ 2 N D V).1.V, .bool (Pm.take ⟨2, n, d, r, l, 0, g, k⟩ 2 N D V).2]) ∧ Below w.heap.size w w' := by
  have HT : Pm.take ⟨2, n, d, r, l, 0, g, k⟩ 2 N D V = (⟨2, n, d, r, l, V, g, k⟩, true) := by unfold Pm.take; rw [or_yes ho, ok_yes hp]; simp
  have KP : Hid (∀ w, Calls Try.prog 21 #[.agg #[.int .i64 2, .int .i64 n, .int .i64 d, .int .i64 r, .int .i64 l, .int .i64 0, .int .i64 g, .int .i64 k]] w fun e w' => e = .returned (.bool true) ∧ Below w.heap.size w w') := fun w => pumpokI ⟨2, n, d, r, l, 0, g, k⟩ true ⟨fun _ => hp, fun _ => rfl⟩ w
  have KO : Hid (∀ w, Calls Try.prog 34 #[.agg #[.int .i64 2, .int .i64 N, .int .i64 D, .int .i64 V]] w fun e w' => e = .returned (.bool true) ∧ Below w.heap.size w w') := fun w => ordokI 2 N D V true ⟨fun _ => ho, fun _ => rfl⟩ w
  rw [HT]
  exact tkI_2 n d r l 0 g k 2 N D V (2) (n) (d) (r) (l) (V) (g) (k) (y := true) KP KO (fun w => (kepI_n 2 n d r l 0 g k 2 N D V rfl (fun w => (runI_2 2 n d r l 0 g k N D V (fun w => wbI_0 2 n d r l g k 2 N D V w) w)) w)) w
theorem takeI_2_2b1 (n d r l b g k N D V : Int) (hp : Pm.ok ⟨2, n, d, r, l, b, g, k⟩) (ho : OrdR 2 N D V) (hb0 : 0 < b) (w : World) : Calls Try.prog 16 #[.agg #[.int .i64 2, .int .i64 n, .int .i64 d, .int .i64 r, .int .i64 l, .int .i64 b, .int .i64 g, .int .i64 k], .agg #[.int .i64 2, .int .i64 N, .int .i64 D, .int .i64 V]] w fun e w' => e = .returned (.tuple #[(Pm.take ⟨2, n, d, r, l, b, g, k⟩ 2 N D V).1.V, .bool (Pm.take ⟨2, n, d, r, l, b, g, k⟩ 2 N D V).2]) ∧ Below w.heap.size w w' := by
  have HT : Pm.take ⟨2, n, d, r, l, b, g, k⟩ 2 N D V = (⟨2, n, d, r, l, b, g, k⟩, false) := by unfold Pm.take; rw [or_yes ho, ok_yes hp]; simp [hb0]
  have KP : Hid (∀ w, Calls Try.prog 21 #[.agg #[.int .i64 2, .int .i64 n, .int .i64 d, .int .i64 r, .int .i64 l, .int .i64 b, .int .i64 g, .int .i64 k]] w fun e w' => e = .returned (.bool true) ∧ Below w.heap.size w w') := fun w => pumpokI ⟨2, n, d, r, l, b, g, k⟩ true ⟨fun _ => hp, fun _ => rfl⟩ w
  have KO : Hid (∀ w, Calls Try.prog 34 #[.agg #[.int .i64 2, .int .i64 N, .int .i64 D, .int .i64 V]] w fun e w' => e = .returned (.bool true) ∧ Below w.heap.size w w') := fun w => ordokI 2 N D V true ⟨fun _ => ho, fun _ => rfl⟩ w
  have hbn : (b != 0) = true := by simp; omega
  rw [HT]
  exact tkI_2 n d r l b g k 2 N D V (2) (n) (d) (r) (l) (b) (g) (k) (y := false) KP KO (fun w => (kepI_n 2 n d r l b g k 2 N D V rfl (fun w => (runI_2 2 n d r l b g k N D V (fun w => wbI_n 2 n d r l b g k 2 N D V hbn w) w)) w)) w
theorem takeI_2_3 (n d r l b g k N D V : Int) (hp : Pm.ok ⟨3, n, d, r, l, b, g, k⟩) (ho : OrdR 2 N D V) (w : World) : Calls Try.prog 16 #[.agg #[.int .i64 3, .int .i64 n, .int .i64 d, .int .i64 r, .int .i64 l, .int .i64 b, .int .i64 g, .int .i64 k], .agg #[.int .i64 2, .int .i64 N, .int .i64 D, .int .i64 V]] w fun e w' => e = .returned (.tuple #[(Pm.take ⟨3, n, d, r, l, b, g, k⟩ 2 N D V).1.V, .bool (Pm.take ⟨3, n, d, r, l, b, g, k⟩ 2 N D V).2]) ∧ Below w.heap.size w w' := by
  have HT : Pm.take ⟨3, n, d, r, l, b, g, k⟩ 2 N D V = (⟨3, n, d, r, l, b, g, k⟩, false) := by unfold Pm.take; rw [or_yes ho, ok_yes hp]; simp
  have KP : Hid (∀ w, Calls Try.prog 21 #[.agg #[.int .i64 3, .int .i64 n, .int .i64 d, .int .i64 r, .int .i64 l, .int .i64 b, .int .i64 g, .int .i64 k]] w fun e w' => e = .returned (.bool true) ∧ Below w.heap.size w w') := fun w => pumpokI ⟨3, n, d, r, l, b, g, k⟩ true ⟨fun _ => hp, fun _ => rfl⟩ w
  have KO : Hid (∀ w, Calls Try.prog 34 #[.agg #[.int .i64 2, .int .i64 N, .int .i64 D, .int .i64 V]] w fun e w' => e = .returned (.bool true) ∧ Below w.heap.size w w') := fun w => ordokI 2 N D V true ⟨fun _ => ho, fun _ => rfl⟩ w
  rw [HT]
  exact tkI_3 n d r l b g k 2 N D V (3) (n) (d) (r) (l) (b) (g) (k) (y := false) KP KO (fun w => (pauI_n 3 n d r l b g k 2 N D V rfl (fun w => (alwI_n 3 n d r l b g k 2 N D V rfl w)) w)) w
theorem takeI_3_0 (n d r l b g k N D V : Int) (hp : Pm.ok ⟨0, n, d, r, l, b, g, k⟩) (ho : OrdR 3 N D V) (w : World) : Calls Try.prog 16 #[.agg #[.int .i64 0, .int .i64 n, .int .i64 d, .int .i64 r, .int .i64 l, .int .i64 b, .int .i64 g, .int .i64 k], .agg #[.int .i64 3, .int .i64 N, .int .i64 D, .int .i64 V]] w fun e w' => e = .returned (.tuple #[(Pm.take ⟨0, n, d, r, l, b, g, k⟩ 3 N D V).1.V, .bool (Pm.take ⟨0, n, d, r, l, b, g, k⟩ 3 N D V).2]) ∧ Below w.heap.size w w' := by
  have HT : Pm.take ⟨0, n, d, r, l, b, g, k⟩ 3 N D V = (⟨0, n, d, r, l, b, g, k⟩, false) := by unfold Pm.take; rw [or_yes ho, ok_yes hp]; simp
  have KP : Hid (∀ w, Calls Try.prog 21 #[.agg #[.int .i64 0, .int .i64 n, .int .i64 d, .int .i64 r, .int .i64 l, .int .i64 b, .int .i64 g, .int .i64 k]] w fun e w' => e = .returned (.bool true) ∧ Below w.heap.size w w') := fun w => pumpokI ⟨0, n, d, r, l, b, g, k⟩ true ⟨fun _ => hp, fun _ => rfl⟩ w
  have KO : Hid (∀ w, Calls Try.prog 34 #[.agg #[.int .i64 3, .int .i64 N, .int .i64 D, .int .i64 V]] w fun e w' => e = .returned (.bool true) ∧ Below w.heap.size w w') := fun w => ordokI 3 N D V true ⟨fun _ => ho, fun _ => rfl⟩ w
  rw [HT]
  exact tkI_0 n d r l b g k 3 N D V (0) (n) (d) (r) (l) (b) (g) (k) (y := false) KP KO (fun w => (idlI_n 0 n d r l b g k 3 N D V rfl (fun w => (alwI_n 0 n d r l b g k 3 N D V rfl w)) w)) w
theorem takeI_3_1 (n d r l b g k N D V : Int) (hp : Pm.ok ⟨1, n, d, r, l, b, g, k⟩) (ho : OrdR 3 N D V) (w : World) : Calls Try.prog 16 #[.agg #[.int .i64 1, .int .i64 n, .int .i64 d, .int .i64 r, .int .i64 l, .int .i64 b, .int .i64 g, .int .i64 k], .agg #[.int .i64 3, .int .i64 N, .int .i64 D, .int .i64 V]] w fun e w' => e = .returned (.tuple #[(Pm.take ⟨1, n, d, r, l, b, g, k⟩ 3 N D V).1.V, .bool (Pm.take ⟨1, n, d, r, l, b, g, k⟩ 3 N D V).2]) ∧ Below w.heap.size w w' := by
  have HT : Pm.take ⟨1, n, d, r, l, b, g, k⟩ 3 N D V = (⟨3, n, d, r, l, b, g, 1⟩, true) := by unfold Pm.take; rw [or_yes ho, ok_yes hp]; simp
  have KP : Hid (∀ w, Calls Try.prog 21 #[.agg #[.int .i64 1, .int .i64 n, .int .i64 d, .int .i64 r, .int .i64 l, .int .i64 b, .int .i64 g, .int .i64 k]] w fun e w' => e = .returned (.bool true) ∧ Below w.heap.size w w') := fun w => pumpokI ⟨1, n, d, r, l, b, g, k⟩ true ⟨fun _ => hp, fun _ => rfl⟩ w
  have KO : Hid (∀ w, Calls Try.prog 34 #[.agg #[.int .i64 3, .int .i64 N, .int .i64 D, .int .i64 V]] w fun e w' => e = .returned (.bool true) ∧ Below w.heap.size w w') := fun w => ordokI 3 N D V true ⟨fun _ => ho, fun _ => rfl⟩ w
  rw [HT]
  exact tkI_1 n d r l b g k 3 N D V (3) (n) (d) (r) (l) (b) (g) (1) (y := true) KP KO (fun w => (runI_3 1 n d r l b g k N D V w)) w
theorem takeI_3_2 (n d r l b g k N D V : Int) (hp : Pm.ok ⟨2, n, d, r, l, b, g, k⟩) (ho : OrdR 3 N D V) (w : World) : Calls Try.prog 16 #[.agg #[.int .i64 2, .int .i64 n, .int .i64 d, .int .i64 r, .int .i64 l, .int .i64 b, .int .i64 g, .int .i64 k], .agg #[.int .i64 3, .int .i64 N, .int .i64 D, .int .i64 V]] w fun e w' => e = .returned (.tuple #[(Pm.take ⟨2, n, d, r, l, b, g, k⟩ 3 N D V).1.V, .bool (Pm.take ⟨2, n, d, r, l, b, g, k⟩ 3 N D V).2]) ∧ Below w.heap.size w w' := by
  have HT : Pm.take ⟨2, n, d, r, l, b, g, k⟩ 3 N D V = (⟨3, n, d, r, l, b, g, 2⟩, true) := by unfold Pm.take; rw [or_yes ho, ok_yes hp]; simp
  have KP : Hid (∀ w, Calls Try.prog 21 #[.agg #[.int .i64 2, .int .i64 n, .int .i64 d, .int .i64 r, .int .i64 l, .int .i64 b, .int .i64 g, .int .i64 k]] w fun e w' => e = .returned (.bool true) ∧ Below w.heap.size w w') := fun w => pumpokI ⟨2, n, d, r, l, b, g, k⟩ true ⟨fun _ => hp, fun _ => rfl⟩ w
  have KO : Hid (∀ w, Calls Try.prog 34 #[.agg #[.int .i64 3, .int .i64 N, .int .i64 D, .int .i64 V]] w fun e w' => e = .returned (.bool true) ∧ Below w.heap.size w w') := fun w => ordokI 3 N D V true ⟨fun _ => ho, fun _ => rfl⟩ w
  rw [HT]
  exact tkI_2 n d r l b g k 3 N D V (3) (n) (d) (r) (l) (b) (g) (2) (y := true) KP KO (fun w => (kepI_n 2 n d r l b g k 3 N D V rfl (fun w => (runI_3 2 n d r l b g k N D V w)) w)) w
theorem takeI_3_3 (n d r l b g k N D V : Int) (hp : Pm.ok ⟨3, n, d, r, l, b, g, k⟩) (ho : OrdR 3 N D V) (w : World) : Calls Try.prog 16 #[.agg #[.int .i64 3, .int .i64 n, .int .i64 d, .int .i64 r, .int .i64 l, .int .i64 b, .int .i64 g, .int .i64 k], .agg #[.int .i64 3, .int .i64 N, .int .i64 D, .int .i64 V]] w fun e w' => e = .returned (.tuple #[(Pm.take ⟨3, n, d, r, l, b, g, k⟩ 3 N D V).1.V, .bool (Pm.take ⟨3, n, d, r, l, b, g, k⟩ 3 N D V).2]) ∧ Below w.heap.size w w' := by
  have HT : Pm.take ⟨3, n, d, r, l, b, g, k⟩ 3 N D V = (⟨3, n, d, r, l, b, g, k⟩, false) := by unfold Pm.take; rw [or_yes ho, ok_yes hp]; simp
  have KP : Hid (∀ w, Calls Try.prog 21 #[.agg #[.int .i64 3, .int .i64 n, .int .i64 d, .int .i64 r, .int .i64 l, .int .i64 b, .int .i64 g, .int .i64 k]] w fun e w' => e = .returned (.bool true) ∧ Below w.heap.size w w') := fun w => pumpokI ⟨3, n, d, r, l, b, g, k⟩ true ⟨fun _ => hp, fun _ => rfl⟩ w
  have KO : Hid (∀ w, Calls Try.prog 34 #[.agg #[.int .i64 3, .int .i64 N, .int .i64 D, .int .i64 V]] w fun e w' => e = .returned (.bool true) ∧ Below w.heap.size w w') := fun w => ordokI 3 N D V true ⟨fun _ => ho, fun _ => rfl⟩ w
  rw [HT]
  exact tkI_3 n d r l b g k 3 N D V (3) (n) (d) (r) (l) (b) (g) (k) (y := false) KP KO (fun w => (pauI_n 3 n d r l b g k 3 N D V rfl (fun w => (alwI_n 3 n d r l b g k 3 N D V rfl w)) w)) w
theorem takeI_4_0 (n d r l b g k N D V : Int) (hp : Pm.ok ⟨0, n, d, r, l, b, g, k⟩) (ho : OrdR 4 N D V) (w : World) : Calls Try.prog 16 #[.agg #[.int .i64 0, .int .i64 n, .int .i64 d, .int .i64 r, .int .i64 l, .int .i64 b, .int .i64 g, .int .i64 k], .agg #[.int .i64 4, .int .i64 N, .int .i64 D, .int .i64 V]] w fun e w' => e = .returned (.tuple #[(Pm.take ⟨0, n, d, r, l, b, g, k⟩ 4 N D V).1.V, .bool (Pm.take ⟨0, n, d, r, l, b, g, k⟩ 4 N D V).2]) ∧ Below w.heap.size w w' := by
  have HT : Pm.take ⟨0, n, d, r, l, b, g, k⟩ 4 N D V = (⟨0, n, d, r, l, b, g, k⟩, false) := by unfold Pm.take; rw [or_yes ho, ok_yes hp]; simp
  have KP : Hid (∀ w, Calls Try.prog 21 #[.agg #[.int .i64 0, .int .i64 n, .int .i64 d, .int .i64 r, .int .i64 l, .int .i64 b, .int .i64 g, .int .i64 k]] w fun e w' => e = .returned (.bool true) ∧ Below w.heap.size w w') := fun w => pumpokI ⟨0, n, d, r, l, b, g, k⟩ true ⟨fun _ => hp, fun _ => rfl⟩ w
  have KO : Hid (∀ w, Calls Try.prog 34 #[.agg #[.int .i64 4, .int .i64 N, .int .i64 D, .int .i64 V]] w fun e w' => e = .returned (.bool true) ∧ Below w.heap.size w w') := fun w => ordokI 4 N D V true ⟨fun _ => ho, fun _ => rfl⟩ w
  rw [HT]
  exact tkI_0 n d r l b g k 4 N D V (0) (n) (d) (r) (l) (b) (g) (k) (y := false) KP KO (fun w => (idlI_n 0 n d r l b g k 4 N D V rfl (fun w => (alwI_n 0 n d r l b g k 4 N D V rfl w)) w)) w
theorem takeI_4_1 (n d r l b g k N D V : Int) (hp : Pm.ok ⟨1, n, d, r, l, b, g, k⟩) (ho : OrdR 4 N D V) (w : World) : Calls Try.prog 16 #[.agg #[.int .i64 1, .int .i64 n, .int .i64 d, .int .i64 r, .int .i64 l, .int .i64 b, .int .i64 g, .int .i64 k], .agg #[.int .i64 4, .int .i64 N, .int .i64 D, .int .i64 V]] w fun e w' => e = .returned (.tuple #[(Pm.take ⟨1, n, d, r, l, b, g, k⟩ 4 N D V).1.V, .bool (Pm.take ⟨1, n, d, r, l, b, g, k⟩ 4 N D V).2]) ∧ Below w.heap.size w w' := by
  have HT : Pm.take ⟨1, n, d, r, l, b, g, k⟩ 4 N D V = (⟨1, n, d, r, l, b, g, k⟩, false) := by unfold Pm.take; rw [or_yes ho, ok_yes hp]; simp
  have KP : Hid (∀ w, Calls Try.prog 21 #[.agg #[.int .i64 1, .int .i64 n, .int .i64 d, .int .i64 r, .int .i64 l, .int .i64 b, .int .i64 g, .int .i64 k]] w fun e w' => e = .returned (.bool true) ∧ Below w.heap.size w w') := fun w => pumpokI ⟨1, n, d, r, l, b, g, k⟩ true ⟨fun _ => hp, fun _ => rfl⟩ w
  have KO : Hid (∀ w, Calls Try.prog 34 #[.agg #[.int .i64 4, .int .i64 N, .int .i64 D, .int .i64 V]] w fun e w' => e = .returned (.bool true) ∧ Below w.heap.size w w') := fun w => ordokI 4 N D V true ⟨fun _ => ho, fun _ => rfl⟩ w
  rw [HT]
  exact tkI_1 n d r l b g k 4 N D V (1) (n) (d) (r) (l) (b) (g) (k) (y := false) KP KO (fun w => (runI_n 1 n d r l b g k 4 N D V rfl rfl (fun w => (alwI_n 1 n d r l b g k 4 N D V rfl w)) w)) w
theorem takeI_4_2 (n d r l b g k N D V : Int) (hp : Pm.ok ⟨2, n, d, r, l, b, g, k⟩) (ho : OrdR 4 N D V) (w : World) : Calls Try.prog 16 #[.agg #[.int .i64 2, .int .i64 n, .int .i64 d, .int .i64 r, .int .i64 l, .int .i64 b, .int .i64 g, .int .i64 k], .agg #[.int .i64 4, .int .i64 N, .int .i64 D, .int .i64 V]] w fun e w' => e = .returned (.tuple #[(Pm.take ⟨2, n, d, r, l, b, g, k⟩ 4 N D V).1.V, .bool (Pm.take ⟨2, n, d, r, l, b, g, k⟩ 4 N D V).2]) ∧ Below w.heap.size w w' := by
  have HT : Pm.take ⟨2, n, d, r, l, b, g, k⟩ 4 N D V = (⟨2, n, d, r, l, b, g, k⟩, false) := by unfold Pm.take; rw [or_yes ho, ok_yes hp]; simp
  have KP : Hid (∀ w, Calls Try.prog 21 #[.agg #[.int .i64 2, .int .i64 n, .int .i64 d, .int .i64 r, .int .i64 l, .int .i64 b, .int .i64 g, .int .i64 k]] w fun e w' => e = .returned (.bool true) ∧ Below w.heap.size w w') := fun w => pumpokI ⟨2, n, d, r, l, b, g, k⟩ true ⟨fun _ => hp, fun _ => rfl⟩ w
  have KO : Hid (∀ w, Calls Try.prog 34 #[.agg #[.int .i64 4, .int .i64 N, .int .i64 D, .int .i64 V]] w fun e w' => e = .returned (.bool true) ∧ Below w.heap.size w w') := fun w => ordokI 4 N D V true ⟨fun _ => ho, fun _ => rfl⟩ w
  rw [HT]
  exact tkI_2 n d r l b g k 4 N D V (2) (n) (d) (r) (l) (b) (g) (k) (y := false) KP KO (fun w => (kepI_n 2 n d r l b g k 4 N D V rfl (fun w => (runI_n 2 n d r l b g k 4 N D V rfl rfl (fun w => (alwI_n 2 n d r l b g k 4 N D V rfl w)) w)) w)) w
theorem takeI_4_3 (n d r l b g k N D V : Int) (hp : Pm.ok ⟨3, n, d, r, l, b, g, k⟩) (ho : OrdR 4 N D V) (w : World) : Calls Try.prog 16 #[.agg #[.int .i64 3, .int .i64 n, .int .i64 d, .int .i64 r, .int .i64 l, .int .i64 b, .int .i64 g, .int .i64 k], .agg #[.int .i64 4, .int .i64 N, .int .i64 D, .int .i64 V]] w fun e w' => e = .returned (.tuple #[(Pm.take ⟨3, n, d, r, l, b, g, k⟩ 4 N D V).1.V, .bool (Pm.take ⟨3, n, d, r, l, b, g, k⟩ 4 N D V).2]) ∧ Below w.heap.size w w' := by
  have HT : Pm.take ⟨3, n, d, r, l, b, g, k⟩ 4 N D V = (⟨k, n, d, r, l, b, g, 0⟩, true) := by unfold Pm.take; rw [or_yes ho, ok_yes hp]; simp
  have KP : Hid (∀ w, Calls Try.prog 21 #[.agg #[.int .i64 3, .int .i64 n, .int .i64 d, .int .i64 r, .int .i64 l, .int .i64 b, .int .i64 g, .int .i64 k]] w fun e w' => e = .returned (.bool true) ∧ Below w.heap.size w w') := fun w => pumpokI ⟨3, n, d, r, l, b, g, k⟩ true ⟨fun _ => hp, fun _ => rfl⟩ w
  have KO : Hid (∀ w, Calls Try.prog 34 #[.agg #[.int .i64 4, .int .i64 N, .int .i64 D, .int .i64 V]] w fun e w' => e = .returned (.bool true) ∧ Below w.heap.size w w') := fun w => ordokI 4 N D V true ⟨fun _ => ho, fun _ => rfl⟩ w
  rw [HT]
  exact tkI_3 n d r l b g k 4 N D V (k) (n) (d) (r) (l) (b) (g) (0) (y := true) KP KO (fun w => (pauI_4 3 n d r l b g k N D V w)) w
theorem takeI_5_0 (n d r l b g k N D V : Int) (hp : Pm.ok ⟨0, n, d, r, l, b, g, k⟩) (ho : OrdR 5 N D V) (w : World) : Calls Try.prog 16 #[.agg #[.int .i64 0, .int .i64 n, .int .i64 d, .int .i64 r, .int .i64 l, .int .i64 b, .int .i64 g, .int .i64 k], .agg #[.int .i64 5, .int .i64 N, .int .i64 D, .int .i64 V]] w fun e w' => e = .returned (.tuple #[(Pm.take ⟨0, n, d, r, l, b, g, k⟩ 5 N D V).1.V, .bool (Pm.take ⟨0, n, d, r, l, b, g, k⟩ 5 N D V).2]) ∧ Below w.heap.size w w' := by
  have HT : Pm.take ⟨0, n, d, r, l, b, g, k⟩ 5 N D V = (⟨0, n, d, r, l, b, g, k⟩, false) := by unfold Pm.take; rw [or_yes ho, ok_yes hp]; simp
  have KP : Hid (∀ w, Calls Try.prog 21 #[.agg #[.int .i64 0, .int .i64 n, .int .i64 d, .int .i64 r, .int .i64 l, .int .i64 b, .int .i64 g, .int .i64 k]] w fun e w' => e = .returned (.bool true) ∧ Below w.heap.size w w') := fun w => pumpokI ⟨0, n, d, r, l, b, g, k⟩ true ⟨fun _ => hp, fun _ => rfl⟩ w
  have KO : Hid (∀ w, Calls Try.prog 34 #[.agg #[.int .i64 5, .int .i64 N, .int .i64 D, .int .i64 V]] w fun e w' => e = .returned (.bool true) ∧ Below w.heap.size w w') := fun w => ordokI 5 N D V true ⟨fun _ => ho, fun _ => rfl⟩ w
  rw [HT]
  exact tkI_0 n d r l b g k 5 N D V (0) (n) (d) (r) (l) (b) (g) (k) (y := false) KP KO (fun w => (idlI_n 0 n d r l b g k 5 N D V rfl (fun w => (alwI_n 0 n d r l b g k 5 N D V rfl w)) w)) w
theorem takeI_5_1 (n d r l b g k N D V : Int) (hp : Pm.ok ⟨1, n, d, r, l, b, g, k⟩) (ho : OrdR 5 N D V) (w : World) : Calls Try.prog 16 #[.agg #[.int .i64 1, .int .i64 n, .int .i64 d, .int .i64 r, .int .i64 l, .int .i64 b, .int .i64 g, .int .i64 k], .agg #[.int .i64 5, .int .i64 N, .int .i64 D, .int .i64 V]] w fun e w' => e = .returned (.tuple #[(Pm.take ⟨1, n, d, r, l, b, g, k⟩ 5 N D V).1.V, .bool (Pm.take ⟨1, n, d, r, l, b, g, k⟩ 5 N D V).2]) ∧ Below w.heap.size w w' := by
  have HT : Pm.take ⟨1, n, d, r, l, b, g, k⟩ 5 N D V = (⟨1, n, d, r, l, b, g, k⟩, false) := by unfold Pm.take; rw [or_yes ho, ok_yes hp]; simp
  have KP : Hid (∀ w, Calls Try.prog 21 #[.agg #[.int .i64 1, .int .i64 n, .int .i64 d, .int .i64 r, .int .i64 l, .int .i64 b, .int .i64 g, .int .i64 k]] w fun e w' => e = .returned (.bool true) ∧ Below w.heap.size w w') := fun w => pumpokI ⟨1, n, d, r, l, b, g, k⟩ true ⟨fun _ => hp, fun _ => rfl⟩ w
  have KO : Hid (∀ w, Calls Try.prog 34 #[.agg #[.int .i64 5, .int .i64 N, .int .i64 D, .int .i64 V]] w fun e w' => e = .returned (.bool true) ∧ Below w.heap.size w w') := fun w => ordokI 5 N D V true ⟨fun _ => ho, fun _ => rfl⟩ w
  rw [HT]
  exact tkI_1 n d r l b g k 5 N D V (1) (n) (d) (r) (l) (b) (g) (k) (y := false) KP KO (fun w => (runI_n 1 n d r l b g k 5 N D V rfl rfl (fun w => (alwI_n 1 n d r l b g k 5 N D V rfl w)) w)) w
theorem takeI_5_2 (n d r l b g k N D V : Int) (hp : Pm.ok ⟨2, n, d, r, l, b, g, k⟩) (ho : OrdR 5 N D V) (w : World) : Calls Try.prog 16 #[.agg #[.int .i64 2, .int .i64 n, .int .i64 d, .int .i64 r, .int .i64 l, .int .i64 b, .int .i64 g, .int .i64 k], .agg #[.int .i64 5, .int .i64 N, .int .i64 D, .int .i64 V]] w fun e w' => e = .returned (.tuple #[(Pm.take ⟨2, n, d, r, l, b, g, k⟩ 5 N D V).1.V, .bool (Pm.take ⟨2, n, d, r, l, b, g, k⟩ 5 N D V).2]) ∧ Below w.heap.size w w' := by
  have HT : Pm.take ⟨2, n, d, r, l, b, g, k⟩ 5 N D V = (⟨2, n, d, r, l, b, g, k⟩, false) := by unfold Pm.take; rw [or_yes ho, ok_yes hp]; simp
  have KP : Hid (∀ w, Calls Try.prog 21 #[.agg #[.int .i64 2, .int .i64 n, .int .i64 d, .int .i64 r, .int .i64 l, .int .i64 b, .int .i64 g, .int .i64 k]] w fun e w' => e = .returned (.bool true) ∧ Below w.heap.size w w') := fun w => pumpokI ⟨2, n, d, r, l, b, g, k⟩ true ⟨fun _ => hp, fun _ => rfl⟩ w
  have KO : Hid (∀ w, Calls Try.prog 34 #[.agg #[.int .i64 5, .int .i64 N, .int .i64 D, .int .i64 V]] w fun e w' => e = .returned (.bool true) ∧ Below w.heap.size w w') := fun w => ordokI 5 N D V true ⟨fun _ => ho, fun _ => rfl⟩ w
  rw [HT]
  exact tkI_2 n d r l b g k 5 N D V (2) (n) (d) (r) (l) (b) (g) (k) (y := false) KP KO (fun w => (kepI_n 2 n d r l b g k 5 N D V rfl (fun w => (runI_n 2 n d r l b g k 5 N D V rfl rfl (fun w => (alwI_n 2 n d r l b g k 5 N D V rfl w)) w)) w)) w
theorem takeI_5_3 (n d r l b g k N D V : Int) (hp : Pm.ok ⟨3, n, d, r, l, b, g, k⟩) (ho : OrdR 5 N D V) (w : World) : Calls Try.prog 16 #[.agg #[.int .i64 3, .int .i64 n, .int .i64 d, .int .i64 r, .int .i64 l, .int .i64 b, .int .i64 g, .int .i64 k], .agg #[.int .i64 5, .int .i64 N, .int .i64 D, .int .i64 V]] w fun e w' => e = .returned (.tuple #[(Pm.take ⟨3, n, d, r, l, b, g, k⟩ 5 N D V).1.V, .bool (Pm.take ⟨3, n, d, r, l, b, g, k⟩ 5 N D V).2]) ∧ Below w.heap.size w w' := by
  have HT : Pm.take ⟨3, n, d, r, l, b, g, k⟩ 5 N D V = (⟨3, n, d, r, l, b, g, k⟩, false) := by unfold Pm.take; rw [or_yes ho, ok_yes hp]; simp
  have KP : Hid (∀ w, Calls Try.prog 21 #[.agg #[.int .i64 3, .int .i64 n, .int .i64 d, .int .i64 r, .int .i64 l, .int .i64 b, .int .i64 g, .int .i64 k]] w fun e w' => e = .returned (.bool true) ∧ Below w.heap.size w w') := fun w => pumpokI ⟨3, n, d, r, l, b, g, k⟩ true ⟨fun _ => hp, fun _ => rfl⟩ w
  have KO : Hid (∀ w, Calls Try.prog 34 #[.agg #[.int .i64 5, .int .i64 N, .int .i64 D, .int .i64 V]] w fun e w' => e = .returned (.bool true) ∧ Below w.heap.size w w') := fun w => ordokI 5 N D V true ⟨fun _ => ho, fun _ => rfl⟩ w
  rw [HT]
  exact tkI_3 n d r l b g k 5 N D V (3) (n) (d) (r) (l) (b) (g) (k) (y := false) KP KO (fun w => (pauI_n 3 n d r l b g k 5 N D V rfl (fun w => (alwI_n 3 n d r l b g k 5 N D V rfl w)) w)) w
theorem takeI_6_0 (n d r l b g k N D V : Int) (hp : Pm.ok ⟨0, n, d, r, l, b, g, k⟩) (ho : OrdR 6 N D V) (w : World) : Calls Try.prog 16 #[.agg #[.int .i64 0, .int .i64 n, .int .i64 d, .int .i64 r, .int .i64 l, .int .i64 b, .int .i64 g, .int .i64 k], .agg #[.int .i64 6, .int .i64 N, .int .i64 D, .int .i64 V]] w fun e w' => e = .returned (.tuple #[(Pm.take ⟨0, n, d, r, l, b, g, k⟩ 6 N D V).1.V, .bool (Pm.take ⟨0, n, d, r, l, b, g, k⟩ 6 N D V).2]) ∧ Below w.heap.size w w' := by
  have HT : Pm.take ⟨0, n, d, r, l, b, g, k⟩ 6 N D V = (⟨0, n, d, r, 0, 0, g, 0⟩, true) := by unfold Pm.take; rw [or_yes ho, ok_yes hp]; simp
  have KP : Hid (∀ w, Calls Try.prog 21 #[.agg #[.int .i64 0, .int .i64 n, .int .i64 d, .int .i64 r, .int .i64 l, .int .i64 b, .int .i64 g, .int .i64 k]] w fun e w' => e = .returned (.bool true) ∧ Below w.heap.size w w') := fun w => pumpokI ⟨0, n, d, r, l, b, g, k⟩ true ⟨fun _ => hp, fun _ => rfl⟩ w
  have KO : Hid (∀ w, Calls Try.prog 34 #[.agg #[.int .i64 6, .int .i64 N, .int .i64 D, .int .i64 V]] w fun e w' => e = .returned (.bool true) ∧ Below w.heap.size w w') := fun w => ordokI 6 N D V true ⟨fun _ => ho, fun _ => rfl⟩ w
  rw [HT]
  exact tkI_0 n d r l b g k 6 N D V (0) (n) (d) (r) (0) (0) (g) (0) (y := true) KP KO (fun w => (idlI_n 0 n d r l b g k 6 N D V rfl (fun w => (alwI_6 0 n d r l b g k N D V w)) w)) w
theorem takeI_6_1 (n d r l b g k N D V : Int) (hp : Pm.ok ⟨1, n, d, r, l, b, g, k⟩) (ho : OrdR 6 N D V) (w : World) : Calls Try.prog 16 #[.agg #[.int .i64 1, .int .i64 n, .int .i64 d, .int .i64 r, .int .i64 l, .int .i64 b, .int .i64 g, .int .i64 k], .agg #[.int .i64 6, .int .i64 N, .int .i64 D, .int .i64 V]] w fun e w' => e = .returned (.tuple #[(Pm.take ⟨1, n, d, r, l, b, g, k⟩ 6 N D V).1.V, .bool (Pm.take ⟨1, n, d, r, l, b, g, k⟩ 6 N D V).2]) ∧ Below w.heap.size w w' := by
  have HT : Pm.take ⟨1, n, d, r, l, b, g, k⟩ 6 N D V = (⟨0, n, d, r, 0, 0, g, 0⟩, true) := by unfold Pm.take; rw [or_yes ho, ok_yes hp]; simp
  have KP : Hid (∀ w, Calls Try.prog 21 #[.agg #[.int .i64 1, .int .i64 n, .int .i64 d, .int .i64 r, .int .i64 l, .int .i64 b, .int .i64 g, .int .i64 k]] w fun e w' => e = .returned (.bool true) ∧ Below w.heap.size w w') := fun w => pumpokI ⟨1, n, d, r, l, b, g, k⟩ true ⟨fun _ => hp, fun _ => rfl⟩ w
  have KO : Hid (∀ w, Calls Try.prog 34 #[.agg #[.int .i64 6, .int .i64 N, .int .i64 D, .int .i64 V]] w fun e w' => e = .returned (.bool true) ∧ Below w.heap.size w w') := fun w => ordokI 6 N D V true ⟨fun _ => ho, fun _ => rfl⟩ w
  rw [HT]
  exact tkI_1 n d r l b g k 6 N D V (0) (n) (d) (r) (0) (0) (g) (0) (y := true) KP KO (fun w => (runI_n 1 n d r l b g k 6 N D V rfl rfl (fun w => (alwI_6 1 n d r l b g k N D V w)) w)) w
theorem takeI_6_2 (n d r l b g k N D V : Int) (hp : Pm.ok ⟨2, n, d, r, l, b, g, k⟩) (ho : OrdR 6 N D V) (w : World) : Calls Try.prog 16 #[.agg #[.int .i64 2, .int .i64 n, .int .i64 d, .int .i64 r, .int .i64 l, .int .i64 b, .int .i64 g, .int .i64 k], .agg #[.int .i64 6, .int .i64 N, .int .i64 D, .int .i64 V]] w fun e w' => e = .returned (.tuple #[(Pm.take ⟨2, n, d, r, l, b, g, k⟩ 6 N D V).1.V, .bool (Pm.take ⟨2, n, d, r, l, b, g, k⟩ 6 N D V).2]) ∧ Below w.heap.size w w' := by
  have HT : Pm.take ⟨2, n, d, r, l, b, g, k⟩ 6 N D V = (⟨0, n, d, r, 0, 0, g, 0⟩, true) := by unfold Pm.take; rw [or_yes ho, ok_yes hp]; simp
  have KP : Hid (∀ w, Calls Try.prog 21 #[.agg #[.int .i64 2, .int .i64 n, .int .i64 d, .int .i64 r, .int .i64 l, .int .i64 b, .int .i64 g, .int .i64 k]] w fun e w' => e = .returned (.bool true) ∧ Below w.heap.size w w') := fun w => pumpokI ⟨2, n, d, r, l, b, g, k⟩ true ⟨fun _ => hp, fun _ => rfl⟩ w
  have KO : Hid (∀ w, Calls Try.prog 34 #[.agg #[.int .i64 6, .int .i64 N, .int .i64 D, .int .i64 V]] w fun e w' => e = .returned (.bool true) ∧ Below w.heap.size w w') := fun w => ordokI 6 N D V true ⟨fun _ => ho, fun _ => rfl⟩ w
  rw [HT]
  exact tkI_2 n d r l b g k 6 N D V (0) (n) (d) (r) (0) (0) (g) (0) (y := true) KP KO (fun w => (kepI_n 2 n d r l b g k 6 N D V rfl (fun w => (runI_n 2 n d r l b g k 6 N D V rfl rfl (fun w => (alwI_6 2 n d r l b g k N D V w)) w)) w)) w
theorem takeI_6_3 (n d r l b g k N D V : Int) (hp : Pm.ok ⟨3, n, d, r, l, b, g, k⟩) (ho : OrdR 6 N D V) (w : World) : Calls Try.prog 16 #[.agg #[.int .i64 3, .int .i64 n, .int .i64 d, .int .i64 r, .int .i64 l, .int .i64 b, .int .i64 g, .int .i64 k], .agg #[.int .i64 6, .int .i64 N, .int .i64 D, .int .i64 V]] w fun e w' => e = .returned (.tuple #[(Pm.take ⟨3, n, d, r, l, b, g, k⟩ 6 N D V).1.V, .bool (Pm.take ⟨3, n, d, r, l, b, g, k⟩ 6 N D V).2]) ∧ Below w.heap.size w w' := by
  have HT : Pm.take ⟨3, n, d, r, l, b, g, k⟩ 6 N D V = (⟨0, n, d, r, 0, 0, g, 0⟩, true) := by unfold Pm.take; rw [or_yes ho, ok_yes hp]; simp
  have KP : Hid (∀ w, Calls Try.prog 21 #[.agg #[.int .i64 3, .int .i64 n, .int .i64 d, .int .i64 r, .int .i64 l, .int .i64 b, .int .i64 g, .int .i64 k]] w fun e w' => e = .returned (.bool true) ∧ Below w.heap.size w w') := fun w => pumpokI ⟨3, n, d, r, l, b, g, k⟩ true ⟨fun _ => hp, fun _ => rfl⟩ w
  have KO : Hid (∀ w, Calls Try.prog 34 #[.agg #[.int .i64 6, .int .i64 N, .int .i64 D, .int .i64 V]] w fun e w' => e = .returned (.bool true) ∧ Below w.heap.size w w') := fun w => ordokI 6 N D V true ⟨fun _ => ho, fun _ => rfl⟩ w
  rw [HT]
  exact tkI_3 n d r l b g k 6 N D V (0) (n) (d) (r) (0) (0) (g) (0) (y := true) KP KO (fun w => (pauI_n 3 n d r l b g k 6 N D V rfl (fun w => (alwI_6 3 n d r l b g k N D V w)) w)) w
theorem takeI (p : Pm) (K N D V : Int) (w : World) : Calls Try.prog 16 #[p.V, ordV K N D V] w fun e w' => e = .returned (.tuple #[(p.take K N D V).1.V, .bool (p.take K N D V).2]) ∧ Below w.heap.size w w' := by
  obtain ⟨s, n, d, r, l, b, g, k⟩ := p
  by_cases hp : Pm.ok ⟨s, n, d, r, l, b, g, k⟩
  · by_cases ho : OrdR K N D V
    · have hs : s = 0 ∨ s = 1 ∨ s = 2 ∨ s = 3 := by have := hp.1; dsimp only at this; omega
      have hb : 0 ≤ b := hp.2.2.2.2.2.1.1
      have hk : K = 1 ∨ K = 2 ∨ K = 3 ∨ K = 4 ∨ K = 5 ∨ K = 6 := by have := ho.bd; omega
      rcases hk with rfl | rfl | rfl | rfl | rfl | rfl
      · rcases hs with rfl | rfl | rfl | rfl
        · exact takeI_1_0 n d r l b g k N D V hp ho w
        · exact takeI_1_1 n d r l b g k N D V hp ho w
        · exact takeI_1_2 n d r l b g k N D V hp ho w
        · exact takeI_1_3 n d r l b g k N D V hp ho w
      · rcases hs with rfl | rfl | rfl | rfl
        · exact takeI_2_0 n d r l b g k N D V hp ho w
        · by_cases hb0 : 0 < b
          · exact takeI_2_1b1 n d r l b g k N D V hp ho hb0 w
          · obtain rfl : b = 0 := by omega
            exact takeI_2_1b0 n d r l g k N D V hp ho w
        · by_cases hb0 : 0 < b
          · exact takeI_2_2b1 n d r l b g k N D V hp ho hb0 w
          · obtain rfl : b = 0 := by omega
            exact takeI_2_2b0 n d r l g k N D V hp ho w
        · exact takeI_2_3 n d r l b g k N D V hp ho w
      · rcases hs with rfl | rfl | rfl | rfl
        · exact takeI_3_0 n d r l b g k N D V hp ho w
        · exact takeI_3_1 n d r l b g k N D V hp ho w
        · exact takeI_3_2 n d r l b g k N D V hp ho w
        · exact takeI_3_3 n d r l b g k N D V hp ho w
      · rcases hs with rfl | rfl | rfl | rfl
        · exact takeI_4_0 n d r l b g k N D V hp ho w
        · exact takeI_4_1 n d r l b g k N D V hp ho w
        · exact takeI_4_2 n d r l b g k N D V hp ho w
        · exact takeI_4_3 n d r l b g k N D V hp ho w
      · rcases hs with rfl | rfl | rfl | rfl
        · exact takeI_5_0 n d r l b g k N D V hp ho w
        · exact takeI_5_1 n d r l b g k N D V hp ho w
        · exact takeI_5_2 n d r l b g k N D V hp ho w
        · exact takeI_5_3 n d r l b g k N D V hp ho w
      · rcases hs with rfl | rfl | rfl | rfl
        · exact takeI_6_0 n d r l b g k N D V hp ho w
        · exact takeI_6_1 n d r l b g k N D V hp ho w
        · exact takeI_6_2 n d r l b g k N D V hp ho w
        · exact takeI_6_3 n d r l b g k N D V hp ho w
    · exact takeI_o s n d r l b g k K N D V hp ho w
  · exact takeI_p s n d r l b g k K N D V hp w
theorem wantsI_0 (n d r l b g k : Int) (hp : Pm.ok ⟨0, n, d, r, l, b, g, k⟩) (w : World) : Calls Try.prog 22 #[.agg #[.int .i64 0, .int .i64 n, .int .i64 d, .int .i64 r, .int .i64 l, .int .i64 b, .int .i64 g, .int .i64 k]] w fun e w' => e = .returned (.int .i64 (Pm.wants ⟨0, n, d, r, l, b, g, k⟩)) ∧ Below w.heap.size w w' := by
  have HT : Pm.wants ⟨0, n, d, r, l, b, g, k⟩ = 0 := by unfold Pm.wants; simp
  have KP : Hid (∀ w, Calls Try.prog 21 #[.agg #[.int .i64 0, .int .i64 n, .int .i64 d, .int .i64 r, .int .i64 l, .int .i64 b, .int .i64 g, .int .i64 k]] w fun e w' => e = .returned (.bool true) ∧ Below w.heap.size w w') := fun w => pumpokI ⟨0, n, d, r, l, b, g, k⟩ true ⟨fun _ => hp, fun _ => rfl⟩ w
  rw [HT]
  exact wnI_0 n d r l b g k 0 KP (fun w => npI 0 n d r l b g k w) w
theorem wantsI_3 (n d r l b g k : Int) (hp : Pm.ok ⟨3, n, d, r, l, b, g, k⟩) (w : World) : Calls Try.prog 22 #[.agg #[.int .i64 3, .int .i64 n, .int .i64 d, .int .i64 r, .int .i64 l, .int .i64 b, .int .i64 g, .int .i64 k]] w fun e w' => e = .returned (.int .i64 (Pm.wants ⟨3, n, d, r, l, b, g, k⟩)) ∧ Below w.heap.size w w' := by
  have HT : Pm.wants ⟨3, n, d, r, l, b, g, k⟩ = 0 := by unfold Pm.wants; simp
  have KP : Hid (∀ w, Calls Try.prog 21 #[.agg #[.int .i64 3, .int .i64 n, .int .i64 d, .int .i64 r, .int .i64 l, .int .i64 b, .int .i64 g, .int .i64 k]] w fun e w' => e = .returned (.bool true) ∧ Below w.heap.size w w') := fun w => pumpokI ⟨3, n, d, r, l, b, g, k⟩ true ⟨fun _ => hp, fun _ => rfl⟩ w
  rw [HT]
  exact wnI_3 n d r l b g k 0 KP (fun w => npI 3 n d r l b g k w) w
/-- what it wants, as its state's own method tells -/
theorem pulI_1 (n d r l b g k : Int) (hp : Pm.ok ⟨1, n, d, r, l, b, g, k⟩) (w : World) : Calls Try.prog 56 #[.agg #[.int .i64 1, .int .i64 n, .int .i64 d, .int .i64 r, .int .i64 l, .int .i64 b, .int .i64 g, .int .i64 k]] w fun e w' => e = .returned (.int .i64 (Pm.wants ⟨1, n, d, r, l, b, g, k⟩)) ∧ Below w.heap.size w w' := by
  obtain ⟨y, hy⟩ : ∃ y, (r + n) / d = y := ⟨_, rfl⟩
  have hrt := rate_bd hp
  unfold Pm.rate at hrt
  dsimp only at hrt
  rw [hy] at hrt
  obtain ⟨y0, y1⟩ := hrt
  have hpb : (0 : Int) ≤ b ∧ b ≤ 100 := hp.2.2.2.2.2.1
  have hpl : (0 : Int) ≤ l ∧ l ≤ 5000 := hp.2.2.2.1
  have hpg : (0 : Int) ≤ g ∧ g ≤ 1000000000000 := hp.2.2.2.2.2.2.1
  obtain ⟨q, hq⟩ : ∃ q, min b 3 = q := ⟨_, rfl⟩
  have hrr : ratR n d r := hp.2.1
  have KR : Hid (∀ w, Calls Try.prog 71 #[.agg #[.int .i64 n, .int .i64 d, .int .i64 r]] w fun e w' => e = .returned (.tuple #[.agg #[.int .i64 n, .int .i64 d, .int .i64 ((r + n) % d)], .int .i64 y]) ∧ Below w.heap.size w w') := fun w => by
    have h := stepRI n d r w
    rw [show stepR n d r = (r + n) % d from if_pos hrr, show stepO n d r = y from (if_pos hrr).trans hy] at h
    exact h
  by_cases hm : y ≤ l
  · have HT : Pm.wants ⟨1, n, d, r, l, b, g, k⟩ = y + q := by
      unfold Pm.wants Pm.base Pm.rate
      rw [ok_yes hp]
      simp [hy, hq]
      omega
    rw [HT]
    exact bpuI_y 1 n d r l b g k _ y q (y + q) KR hm hq (wrap_in (by omega) (by omega)) w
  · have HT : Pm.wants ⟨1, n, d, r, l, b, g, k⟩ = l + q := by
      unfold Pm.wants Pm.base Pm.rate
      rw [ok_yes hp]
      simp [hy, hq]
      omega
    rw [HT]
    exact bpuI_l 1 n d r l b g k _ y q (l + q) KR hm hq (wrap_in (by omega) (by omega)) w
theorem wantsI_1 (n d r l b g k : Int) (hp : Pm.ok ⟨1, n, d, r, l, b, g, k⟩) (w : World) : Calls Try.prog 22 #[.agg #[.int .i64 1, .int .i64 n, .int .i64 d, .int .i64 r, .int .i64 l, .int .i64 b, .int .i64 g, .int .i64 k]] w fun e w' => e = .returned (.int .i64 (Pm.wants ⟨1, n, d, r, l, b, g, k⟩)) ∧ Below w.heap.size w w' := by
  have KP : Hid (∀ w, Calls Try.prog 21 #[.agg #[.int .i64 1, .int .i64 n, .int .i64 d, .int .i64 r, .int .i64 l, .int .i64 b, .int .i64 g, .int .i64 k]] w fun e w' => e = .returned (.bool true) ∧ Below w.heap.size w w') := fun w => pumpokI ⟨1, n, d, r, l, b, g, k⟩ true ⟨fun _ => hp, fun _ => rfl⟩ w
  exact wnI_1 n d r l b g k _ KP (fun w => pulI_1 n d r l b g k hp w) w
/-- what it wants, as its state's own method tells -/
theorem pulI_2 (n d r l b g k : Int) (hp : Pm.ok ⟨2, n, d, r, l, b, g, k⟩) (w : World) : Calls Try.prog 59 #[.agg #[.int .i64 2, .int .i64 n, .int .i64 d, .int .i64 r, .int .i64 l, .int .i64 b, .int .i64 g, .int .i64 k]] w fun e w' => e = .returned (.int .i64 (Pm.wants ⟨2, n, d, r, l, b, g, k⟩)) ∧ Below w.heap.size w w' := by
  obtain ⟨y, hy⟩ : ∃ y, (r + n) / d = y := ⟨_, rfl⟩
  have hrt := rate_bd hp
  unfold Pm.rate at hrt
  dsimp only at hrt
  rw [hy] at hrt
  obtain ⟨y0, y1⟩ := hrt
  have hpb : (0 : Int) ≤ b ∧ b ≤ 100 := hp.2.2.2.2.2.1
  have hpl : (0 : Int) ≤ l ∧ l ≤ 5000 := hp.2.2.2.1
  have hpg : (0 : Int) ≤ g ∧ g ≤ 1000000000000 := hp.2.2.2.2.2.2.1
  obtain ⟨q, hq⟩ : ∃ q, min b 3 = q := ⟨_, rfl⟩
  have hrr : ratR n d r := hp.2.1
  have KR : Hid (∀ w, Calls Try.prog 71 #[.agg #[.int .i64 n, .int .i64 d, .int .i64 r]] w fun e w' => e = .returned (.tuple #[.agg #[.int .i64 n, .int .i64 d, .int .i64 ((r + n) % d)], .int .i64 y]) ∧ Below w.heap.size w w') := fun w => by
    have h := stepRI n d r w
    rw [show stepR n d r = (r + n) % d from if_pos hrr, show stepO n d r = y from (if_pos hrr).trans hy] at h
    exact h
  have HT : Pm.wants ⟨2, n, d, r, l, b, g, k⟩ = y + q := by
    unfold Pm.wants Pm.base Pm.rate
    rw [ok_yes hp]
    simp [hy, hq]
  rw [HT]
  exact kpuI 2 n d r l b g k _ y q (y + q) KR hq (wrap_in (by omega) (by omega)) w
theorem wantsI_2 (n d r l b g k : Int) (hp : Pm.ok ⟨2, n, d, r, l, b, g, k⟩) (w : World) : Calls Try.prog 22 #[.agg #[.int .i64 2, .int .i64 n, .int .i64 d, .int .i64 r, .int .i64 l, .int .i64 b, .int .i64 g, .int .i64 k]] w fun e w' => e = .returned (.int .i64 (Pm.wants ⟨2, n, d, r, l, b, g, k⟩)) ∧ Below w.heap.size w w' := by
  have KP : Hid (∀ w, Calls Try.prog 21 #[.agg #[.int .i64 2, .int .i64 n, .int .i64 d, .int .i64 r, .int .i64 l, .int .i64 b, .int .i64 g, .int .i64 k]] w fun e w' => e = .returned (.bool true) ∧ Below w.heap.size w w') := fun w => pumpokI ⟨2, n, d, r, l, b, g, k⟩ true ⟨fun _ => hp, fun _ => rfl⟩ w
  exact wnI_2 n d r l b g k _ KP (fun w => pulI_2 n d r l b g k hp w) w
theorem wantsI (p : Pm) (w : World) : Calls Try.prog 22 #[p.V] w fun e w' => e = .returned (.int .i64 p.wants) ∧ Below w.heap.size w w' := by
  obtain ⟨s, n, d, r, l, b, g, k⟩ := p
  by_cases hp : Pm.ok ⟨s, n, d, r, l, b, g, k⟩
  · have hs : s = 0 ∨ s = 1 ∨ s = 2 ∨ s = 3 := by have := hp.1; dsimp only at this; omega
    rcases hs with rfl | rfl | rfl | rfl
    · exact wantsI_0 n d r l b g k hp w
    · exact wantsI_1 n d r l b g k hp w
    · exact wantsI_2 n d r l b g k hp w
    · exact wantsI_3 n d r l b g k hp w
  · have HT : Pm.wants ⟨s, n, d, r, l, b, g, k⟩ = 0 := by unfold Pm.wants; rw [ok_no hp]; simp
    rw [HT]
    exact wnI_no s n d r l b g k (fun w => pumpokI ⟨s, n, d, r, l, b, g, k⟩ false ⟨fun h => (by cases h), fun h => absurd h hp⟩ w) w
theorem giveI_0 (n d r l b g k a : Int) (hp : Pm.ok ⟨0, n, d, r, l, b, g, k⟩) (w : World) : Calls Try.prog 19 #[.agg #[.int .i64 0, .int .i64 n, .int .i64 d, .int .i64 r, .int .i64 l, .int .i64 b, .int .i64 g, .int .i64 k], .int .i64 a] w fun e w' => e = .returned (Pm.give ⟨0, n, d, r, l, b, g, k⟩ a).V ∧ Below w.heap.size w w' := by
  have HT : Pm.give ⟨0, n, d, r, l, b, g, k⟩ a = ⟨0, n, d, r, l, b, g, k⟩ := by unfold Pm.give; simp
  have KP : Hid (∀ w, Calls Try.prog 21 #[.agg #[.int .i64 0, .int .i64 n, .int .i64 d, .int .i64 r, .int .i64 l, .int .i64 b, .int .i64 g, .int .i64 k]] w fun e w' => e = .returned (.bool true) ∧ Below w.heap.size w w') := fun w => pumpokI ⟨0, n, d, r, l, b, g, k⟩ true ⟨fun _ => hp, fun _ => rfl⟩ w
  rw [HT]
  exact gvI_0 n d r l b g k a 0 _ 0 n d r l b g k KP (fun w => npI 0 n d r l b g k w) rfl (fun w => nothI 0 n d r l b g k _ w) w
theorem giveI_3 (n d r l b g k a : Int) (hp : Pm.ok ⟨3, n, d, r, l, b, g, k⟩) (w : World) : Calls Try.prog 19 #[.agg #[.int .i64 3, .int .i64 n, .int .i64 d, .int .i64 r, .int .i64 l, .int .i64 b, .int .i64 g, .int .i64 k], .int .i64 a] w fun e w' => e = .returned (Pm.give ⟨3, n, d, r, l, b, g, k⟩ a).V ∧ Below w.heap.size w w' := by
  have HT : Pm.give ⟨3, n, d, r, l, b, g, k⟩ a = ⟨3, n, d, r, l, b, g, k⟩ := by unfold Pm.give; simp
  have KP : Hid (∀ w, Calls Try.prog 21 #[.agg #[.int .i64 3, .int .i64 n, .int .i64 d, .int .i64 r, .int .i64 l, .int .i64 b, .int .i64 g, .int .i64 k]] w fun e w' => e = .returned (.bool true) ∧ Below w.heap.size w w') := fun w => pumpokI ⟨3, n, d, r, l, b, g, k⟩ true ⟨fun _ => hp, fun _ => rfl⟩ w
  rw [HT]
  exact gvI_3 n d r l b g k a 0 _ 3 n d r l b g k KP (fun w => npI 3 n d r l b g k w) rfl (fun w => nothI 3 n d r l b g k _ w) w
theorem giveI_1 (n d r l b g k a : Int) (hp : Pm.ok ⟨1, n, d, r, l, b, g, k⟩) (w : World) : Calls Try.prog 19 #[.agg #[.int .i64 1, .int .i64 n, .int .i64 d, .int .i64 r, .int .i64 l, .int .i64 b, .int .i64 g, .int .i64 k], .int .i64 a] w fun e w' => e = .returned (Pm.give ⟨1, n, d, r, l, b, g, k⟩ a).V ∧ Below w.heap.size w w' := by
  have KP : Hid (∀ w, Calls Try.prog 21 #[.agg #[.int .i64 1, .int .i64 n, .int .i64 d, .int .i64 r, .int .i64 l, .int .i64 b, .int .i64 g, .int .i64 k]] w fun e w' => e = .returned (.bool true) ∧ Below w.heap.size w w') := fun w => pumpokI ⟨1, n, d, r, l, b, g, k⟩ true ⟨fun _ => hp, fun _ => rfl⟩ w
  obtain ⟨y, hy⟩ : ∃ y, (r + n) / d = y := ⟨_, rfl⟩
  have hrt := rate_bd hp
  unfold Pm.rate at hrt
  dsimp only at hrt
  rw [hy] at hrt
  obtain ⟨y0, y1⟩ := hrt
  have hpb : (0 : Int) ≤ b ∧ b ≤ 100 := hp.2.2.2.2.2.1
  have hpl : (0 : Int) ≤ l ∧ l ≤ 5000 := hp.2.2.2.1
  have hpg : (0 : Int) ≤ g ∧ g ≤ 1000000000000 := hp.2.2.2.2.2.2.1
  obtain ⟨q, hq⟩ : ∃ q, min b 3 = q := ⟨_, rfl⟩
  have hrr : ratR n d r := hp.2.1
  have KR : Hid (∀ w, Calls Try.prog 71 #[.agg #[.int .i64 n, .int .i64 d, .int .i64 r]] w fun e w' => e = .returned (.tuple #[.agg #[.int .i64 n, .int .i64 d, .int .i64 ((r + n) % d)], .int .i64 y]) ∧ Below w.heap.size w w') := fun w => by
    have h := stepRI n d r w
    rw [show stepR n d r = (r + n) % d from if_pos hrr, show stepO n d r = y from (if_pos hrr).trans hy] at h
    exact h
  obtain ⟨W, hW⟩ : ∃ W, Pm.wants ⟨1, n, d, r, l, b, g, k⟩ = W := ⟨_, rfl⟩
  have hwb := wants_bd ⟨1, n, d, r, l, b, g, k⟩
  have hwr := wants_run hp (Or.inl rfl)
  have hbb := base_bd hp
  dsimp only at hwr hbb
  rw [hW] at hwb hwr
  rw [hq] at hwr
  obtain ⟨m, hm⟩ : ∃ m, min (max a 0) W = m := ⟨_, rfl⟩
  have hme : max (min a (Pm.wants ⟨1, n, d, r, l, b, g, k⟩)) 0 = m := by rw [hW]; omega
  have hm0 : 0 ≤ m ∧ m ≤ W := by omega
  have KA : Hid (∀ w, Calls Try.prog 72 #[.int .i64 g, .int .i64 m] w fun e w' => e = .returned (.int .i64 (min (g + m) 1000000000000)) ∧ Below w.heap.size w w') := fun w => addI g m g m (g + m) _ (show _ = _ from (by omega)) (show _ = _ from (by omega)) (wrap_in (by omega) (by omega)) (show _ = _ from (by omega)) w
  generalize Pm.base ⟨1, n, d, r, l, b, g, k⟩ = base at hwr hbb
  by_cases hmq : m ≤ q
  · have hl0 : 0 < l := hp.2.2.2.2.1.2 (Or.inl rfl)
    have eL : IntKind.i64.wrap (l - 0) = l := (wrap_in (by omega) (by omega)).trans (by omega)
    have hLz : (l == 0) = false := by simp; omega
    have HT : Pm.give ⟨1, n, d, r, l, b, g, k⟩ a = ⟨1, n, d, ((r + n) % d), l, (b - m), (min (g + m) 1000000000000), k⟩ := by
      unfold Pm.give
      rw [ok_yes hp]
      unfold Pm.giveR
      dsimp only
      rw [hme, hq, show min m q = m from (by omega)]
      simp; omega
    rw [HT]
    exact gvI_1 n d r l b g k a W m 1 n d ((r + n) % d) l (b - m) (min (g + m) 1000000000000) k KP (fun w => by have h := pulI_1 n d r l b g k hp w; rw [hW] at h; exact h) hm (fun w => gbI_n 1 n d r l b g k m 0 1 n d ((r + n) % d) l (b - m) (min (g + m) 1000000000000) k (fun w => tikI_a 1 n d r l b g k m ((r + n) % d) y q (b - m) (min (g + m) 1000000000000) KR KA hq hmq (wrap_in (by omega) (by omega)) w) (L := l) eL hLz w) w
  · have hl0 : base ≤ l := hbb.2.2 rfl
    by_cases hz : l - (m - q) = 0
    · have eL : IntKind.i64.wrap (l - (m - q)) = 0 := (wrap_in (by omega) (by omega)).trans (by omega)
      have HT : Pm.give ⟨1, n, d, r, l, b, g, k⟩ a = ⟨2, 1, 50, 0, 0, (b - q), (min (g + m) 1000000000000), k⟩ := by
        unfold Pm.give
        rw [ok_yes hp]
        unfold Pm.giveR
        dsimp only
        rw [hme, hq, show min m q = q from (by omega)]
        simp [hz]
      rw [HT]
      exact gvI_1 n d r l b g k a W m 2 1 50 0 0 (b - q) (min (g + m) 1000000000000) k KP (fun w => by have h := pulI_1 n d r l b g k hp w; rw [hW] at h; exact h) hm (fun w => gbI_0 1 n d r l b g k m (m - q) 1 n d ((r + n) % d) l (b - q) (min (g + m) 1000000000000) k (fun w => tikI_q 1 n d r l b g k m ((r + n) % d) y q (b - q) (min (g + m) 1000000000000) (m - q) KR KA hq hmq (wrap_in (by omega) (by omega)) (wrap_in (by omega) (by omega)) w) eL w) w
    · have eL : IntKind.i64.wrap (l - (m - q)) = (l - (m - q)) := (wrap_in (by omega) (by omega)).trans (by omega)
      have hLz : ((l - (m - q)) == 0) = false := by simp; omega
      have HT : Pm.give ⟨1, n, d, r, l, b, g, k⟩ a = ⟨1, n, d, ((r + n) % d), (l - (m - q)), (b - q), (min (g + m) 1000000000000), k⟩ := by
        unfold Pm.give
        rw [ok_yes hp]
        unfold Pm.giveR
        dsimp only
        rw [hme, hq, show min m q = q from (by omega)]
        simp [hz]
      rw [HT]
      exact gvI_1 n d r l b g k a W m 1 n d ((r + n) % d) (l - (m - q)) (b - q) (min (g + m) 1000000000000) k KP (fun w => by have h := pulI_1 n d r l b g k hp w; rw [hW] at h; exact h) hm (fun w => gbI_n 1 n d r l b g k m (m - q) 1 n d ((r + n) % d) l (b - q) (min (g + m) 1000000000000) k (fun w => tikI_q 1 n d r l b g k m ((r + n) % d) y q (b - q) (min (g + m) 1000000000000) (m - q) KR KA hq hmq (wrap_in (by omega) (by omega)) (wrap_in (by omega) (by omega)) w) (L := (l - (m - q))) eL hLz w) w
theorem giveI_2 (n d r l b g k a : Int) (hp : Pm.ok ⟨2, n, d, r, l, b, g, k⟩) (w : World) : Calls Try.prog 19 #[.agg #[.int .i64 2, .int .i64 n, .int .i64 d, .int .i64 r, .int .i64 l, .int .i64 b, .int .i64 g, .int .i64 k], .int .i64 a] w fun e w' => e = .returned (Pm.give ⟨2, n, d, r, l, b, g, k⟩ a).V ∧ Below w.heap.size w w' := by
  have KP : Hid (∀ w, Calls Try.prog 21 #[.agg #[.int .i64 2, .int .i64 n, .int .i64 d, .int .i64 r, .int .i64 l, .int .i64 b, .int .i64 g, .int .i64 k]] w fun e w' => e = .returned (.bool true) ∧ Below w.heap.size w w') := fun w => pumpokI ⟨2, n, d, r, l, b, g, k⟩ true ⟨fun _ => hp, fun _ => rfl⟩ w
  obtain ⟨y, hy⟩ : ∃ y, (r + n) / d = y := ⟨_, rfl⟩
  have hrt := rate_bd hp
  unfold Pm.rate at hrt
  dsimp only at hrt
  rw [hy] at hrt
  obtain ⟨y0, y1⟩ := hrt
  have hpb : (0 : Int) ≤ b ∧ b ≤ 100 := hp.2.2.2.2.2.1
  have hpl : (0 : Int) ≤ l ∧ l ≤ 5000 := hp.2.2.2.1
  have hpg : (0 : Int) ≤ g ∧ g ≤ 1000000000000 := hp.2.2.2.2.2.2.1
  obtain ⟨q, hq⟩ : ∃ q, min b 3 = q := ⟨_, rfl⟩
  have hrr : ratR n d r := hp.2.1
  have KR : Hid (∀ w, Calls Try.prog 71 #[.agg #[.int .i64 n, .int .i64 d, .int .i64 r]] w fun e w' => e = .returned (.tuple #[.agg #[.int .i64 n, .int .i64 d, .int .i64 ((r + n) % d)], .int .i64 y]) ∧ Below w.heap.size w w') := fun w => by
    have h := stepRI n d r w
    rw [show stepR n d r = (r + n) % d from if_pos hrr, show stepO n d r = y from (if_pos hrr).trans hy] at h
    exact h
  obtain ⟨W, hW⟩ : ∃ W, Pm.wants ⟨2, n, d, r, l, b, g, k⟩ = W := ⟨_, rfl⟩
  have hwb := wants_bd ⟨2, n, d, r, l, b, g, k⟩
  have hwr := wants_run hp (Or.inr rfl)
  have hbb := base_bd hp
  dsimp only at hwr hbb
  rw [hW] at hwb hwr
  rw [hq] at hwr
  obtain ⟨m, hm⟩ : ∃ m, min (max a 0) W = m := ⟨_, rfl⟩
  have hme : max (min a (Pm.wants ⟨2, n, d, r, l, b, g, k⟩)) 0 = m := by rw [hW]; omega
  have hm0 : 0 ≤ m ∧ m ≤ W := by omega
  have KA : Hid (∀ w, Calls Try.prog 72 #[.int .i64 g, .int .i64 m] w fun e w' => e = .returned (.int .i64 (min (g + m) 1000000000000)) ∧ Below w.heap.size w w') := fun w => addI g m g m (g + m) _ (show _ = _ from (by omega)) (show _ = _ from (by omega)) (wrap_in (by omega) (by omega)) (show _ = _ from (by omega)) w
  generalize Pm.base ⟨2, n, d, r, l, b, g, k⟩ = base at hwr hbb
  by_cases hmq : m ≤ q
  · have HT : Pm.give ⟨2, n, d, r, l, b, g, k⟩ a = ⟨2, n, d, ((r + n) % d), l, (b - m), (min (g + m) 1000000000000), k⟩ := by
      unfold Pm.give
      rw [ok_yes hp]
      unfold Pm.giveR
      dsimp only
      rw [hme, hq, show min m q = m from (by omega)]
      simp
    rw [HT]
    exact gvI_2 n d r l b g k a W m 2 n d ((r + n) % d) l (b - m) (min (g + m) 1000000000000) k KP (fun w => by have h := pulI_2 n d r l b g k hp w; rw [hW] at h; exact h) hm (fun w => gkI 2 n d r l b g k m 0 2 n d ((r + n) % d) l (b - m) (min (g + m) 1000000000000) k (fun w => tikI_a 2 n d r l b g k m ((r + n) % d) y q (b - m) (min (g + m) 1000000000000) KR KA hq hmq (wrap_in (by omega) (by omega)) w) w) w
  · have HT : Pm.give ⟨2, n, d, r, l, b, g, k⟩ a = ⟨2, n, d, ((r + n) % d), l, (b - q), (min (g + m) 1000000000000), k⟩ := by
      unfold Pm.give
      rw [ok_yes hp]
      unfold Pm.giveR
      dsimp only
      rw [hme, hq, show min m q = q from (by omega)]
      simp
    rw [HT]
    exact gvI_2 n d r l b g k a W m 2 n d ((r + n) % d) l (b - q) (min (g + m) 1000000000000) k KP (fun w => by have h := pulI_2 n d r l b g k hp w; rw [hW] at h; exact h) hm (fun w => gkI 2 n d r l b g k m (m - q) 2 n d ((r + n) % d) l (b - q) (min (g + m) 1000000000000) k (fun w => tikI_q 2 n d r l b g k m ((r + n) % d) y q (b - q) (min (g + m) 1000000000000) (m - q) KR KA hq hmq (wrap_in (by omega) (by omega)) (wrap_in (by omega) (by omega)) w) w) w
theorem giveI (p : Pm) (a : Int) (w : World) : Calls Try.prog 19 #[p.V, .int .i64 a] w fun e w' => e = .returned (p.give a).V ∧ Below w.heap.size w w' := by
  obtain ⟨s, n, d, r, l, b, g, k⟩ := p
  by_cases hp : Pm.ok ⟨s, n, d, r, l, b, g, k⟩
  · have hs : s = 0 ∨ s = 1 ∨ s = 2 ∨ s = 3 := by have := hp.1; dsimp only at this; omega
    rcases hs with rfl | rfl | rfl | rfl
    · exact giveI_0 n d r l b g k a hp w
    · exact giveI_1 n d r l b g k a hp w
    · exact giveI_2 n d r l b g k a hp w
    · exact giveI_3 n d r l b g k a hp w
  · have HT : Pm.give ⟨s, n, d, r, l, b, g, k⟩ a = ⟨s, n, d, r, l, b, g, k⟩ := by unfold Pm.give; rw [ok_no hp]; simp
    rw [HT]
    exact gvI_no s n d r l b g k a (fun w => pumpokI ⟨s, n, d, r, l, b, g, k⟩ false ⟨fun h => (by cases h), fun h => absurd h hp⟩ w) w
end Go.Proofs.Ytpjnmkijndmemaa
