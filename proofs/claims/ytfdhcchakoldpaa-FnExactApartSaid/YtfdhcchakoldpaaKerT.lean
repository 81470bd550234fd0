/-
  A kernel is copied.
-/
import Derived.Test.YtfdhcchakoldpaaKer
import Derived.Test.YtfdhcchakoldpaaLineW
import Derived.Deep.CutBlock
namespace Go.Proofs.Ytfdhcchakoldpaa
open Go.ChangeShapes Go.WideShapes Go.ChangeAt Go.RowKit Go.PlainAid
set_option linter.unusedVariables false

set_option maxRecDepth 100000 in
set_option maxHeartbeats 4000000 in
theorem toSetR (s : SH) (X : SX) (w : World) (h : RdX w s X) (hs : SmX s X) :
    Calls Try.prog 64 #[SetV s] w fun e w' => ∃ s', e = .returned (SetV s') ∧ RwX w' w.heap.size s' X ∧ Below w.heap.size w w' := by
  have HX : Hid (RdX w s X) := h
  have HS : Hid (SmX s X) := hs
  have HB0 : Hid (Below w.heap.size w (((w.alloc (.cells #[.slice s.q0 s.n0 s.c0, .slice s.q1 s.n1 s.c1, .slice s.q2 s.n2 s.c2, .slice s.q3 s.n3 s.c3, .slice s.q4 s.n4 s.c4] 80)).alloc (.cells #[.slice none 0 0, .slice none 0 0, .slice none 0 0, .slice none 0 0, .slice none 0 0] 30)).alloc (.cells #[.slice none 0 0, .slice none 0 0, .slice none 0 0, .slice none 0 0, .slice none 0 0] 30))) := (((Below.refl _ _).alloc (Nat.le_refl _) _).alloc (by simp) _).alloc (by simp; omega) _
  have HI0 : Hid ((((w.alloc (.cells #[.slice s.q0 s.n0 s.c0, .slice s.q1 s.n1 s.c1, .slice s.q2 s.n2 s.c2, .slice s.q3 s.n3 s.c3, .slice s.q4 s.n4 s.c4] 80)).alloc (.cells #[.slice none 0 0, .slice none 0 0, .slice none 0 0, .slice none 0 0, .slice none 0 0] 30)).alloc (.cells #[.slice none 0 0, .slice none 0 0, .slice none 0 0, .slice none 0 0, .slice none 0 0] 30)).heap[w.heap.size]? = some (.cells #[.slice s.q0 s.n0 s.c0, .slice s.q1 s.n1 s.c1, .slice s.q2 s.n2 s.c2, .slice s.q3 s.n3 s.c3, .slice s.q4 s.n4 s.c4] 80)) :=
    row_on (row_on (heap_new w _) ((Below.refl _ _).alloc (Nat.le_refl _) _)) ((Below.refl _ _).alloc (Nat.le_refl _) _)
  have HZ0 : Hid ((((w.alloc (.cells #[.slice s.q0 s.n0 s.c0, .slice s.q1 s.n1 s.c1, .slice s.q2 s.n2 s.c2, .slice s.q3 s.n3 s.c3, .slice s.q4 s.n4 s.c4] 80)).alloc (.cells #[.slice none 0 0, .slice none 0 0, .slice none 0 0, .slice none 0 0, .slice none 0 0] 30)).alloc (.cells #[.slice none 0 0, .slice none 0 0, .slice none 0 0, .slice none 0 0, .slice none 0 0] 30)).heap[w.heap.size + 1]? = some (.cells #[.slice none 0 0, .slice none 0 0, .slice none 0 0, .slice none 0 0, .slice none 0 0] 30)) := by
    have h1 := heap_new (w.alloc (.cells #[.slice s.q0 s.n0 s.c0, .slice s.q1 s.n1 s.c1, .slice s.q2 s.n2 s.c2, .slice s.q3 s.n3 s.c3, .slice s.q4 s.n4 s.c4] 80)) (.cells #[.slice none 0 0, .slice none 0 0, .slice none 0 0, .slice none 0 0, .slice none 0 0] 30)
    have e1 : (w.alloc (.cells #[.slice s.q0 s.n0 s.c0, .slice s.q1 s.n1 s.c1, .slice s.q2 s.n2 s.c2, .slice s.q3 s.n3 s.c3, .slice s.q4 s.n4 s.c4] 80)).heap.size = w.heap.size + 1 := by simp
    rw [e1] at h1
    exact row_on h1 ((Below.refl _ _).alloc (Nat.le_refl _) _)
  have HO0 : Hid ((((w.alloc (.cells #[.slice s.q0 s.n0 s.c0, .slice s.q1 s.n1 s.c1, .slice s.q2 s.n2 s.c2, .slice s.q3 s.n3 s.c3, .slice s.q4 s.n4 s.c4] 80)).alloc (.cells #[.slice none 0 0, .slice none 0 0, .slice none 0 0, .slice none 0 0, .slice none 0 0] 30)).alloc (.cells #[.slice none 0 0, .slice none 0 0, .slice none 0 0, .slice none 0 0, .slice none 0 0] 30)).heap[w.heap.size + 1 + 1]? = some (.cells #[.slice none 0 0, .slice none 0 0, .slice none 0 0, .slice none 0 0, .slice none 0 0] 30)) := by
    have h1 := heap_new ((w.alloc (.cells #[.slice s.q0 s.n0 s.c0, .slice s.q1 s.n1 s.c1, .slice s.q2 s.n2 s.c2, .slice s.q3 s.n3 s.c3, .slice s.q4 s.n4 s.c4] 80)).alloc (.cells #[.slice none 0 0, .slice none 0 0, .slice none 0 0, .slice none 0 0, .slice none 0 0] 30)) (.cells #[.slice none 0 0, .slice none 0 0, .slice none 0 0, .slice none 0 0, .slice none 0 0] 30)
    have e1 : ((w.alloc (.cells #[.slice s.q0 s.n0 s.c0, .slice s.q1 s.n1 s.c1, .slice s.q2 s.n2 s.c2, .slice s.q3 s.n3 s.c3, .slice s.q4 s.n4 s.c4] 80)).alloc (.cells #[.slice none 0 0, .slice none 0 0, .slice none 0 0, .slice none 0 0, .slice none 0 0] 30)).heap.size = w.heap.size + 1 + 1 := by simp
    rw [e1] at h1
    exact h1
  clear h hs
  unfold SetV
  go_enter Try.func64, Try.ntmps64
  go_wp2_with fail
  refine (R.toRs s.q0 X.R s.n0 s.c0 HX.out.l0 HS.out.n0 _ (HX.out.r0.keep HB0.out (Nat.le_refl _))).mono ?_
  rintro e v1 ⟨rfl, hrow0, hb1⟩
  obtain ⟨g0, hg0⟩ : ∃ k, (((w.alloc (.cells #[.slice s.q0 s.n0 s.c0, .slice s.q1 s.n1 s.c1, .slice s.q2 s.n2 s.c2, .slice s.q3 s.n3 s.c3, .slice s.q4 s.n4 s.c4] 80)).alloc (.cells #[.slice none 0 0, .slice none 0 0, .slice none 0 0, .slice none 0 0, .slice none 0 0] 30)).alloc (.cells #[.slice none 0 0, .slice none 0 0, .slice none 0 0, .slice none 0 0, .slice none 0 0] 30)).heap.size = k := ⟨_, rfl⟩
  have hlt0 : w.heap.size + 1 + 1 < g0 := by rw [← hg0]; exact row_lt HO0.out
  rw [hg0] at hrow0
  try rw [hg0]
  try (have hg0' := hg0; simp only [size_alloc', World.alloc, Array.size_push] at hg0')
  have HI0b : Hid (v1.heap[w.heap.size]? = some (.cells #[.slice s.q0 s.n0 s.c0, .slice s.q1 s.n1 s.c1, .slice s.q2 s.n2 s.c2, .slice s.q3 s.n3 s.c3, .slice s.q4 s.n4 s.c4] 80)) := row_on HI0.out hb1
  have HZ0b : Hid (v1.heap[w.heap.size + 1]? = some (.cells #[.slice none 0 0, .slice none 0 0, .slice none 0 0, .slice none 0 0, .slice none 0 0] 30)) := row_on HZ0.out hb1
  have HO0b : Hid (v1.heap[w.heap.size + 1 + 1]? = some (.cells #[.slice none 0 0, .slice none 0 0, .slice none 0 0, .slice none 0 0, .slice none 0 0] 30)) := row_on HO0.out hb1
  have HB0b : Hid (Below w.heap.size w v1) := bel_on (Nat.le_refl _) HB0.out hb1
  have HI1 : Hid ((v1.setCell ⟨w.heap.size + 1 + 1, 0, none⟩ (.slice (some ⟨g0, 0, none⟩) s.n0 s.n0)).heap[w.heap.size]? = some (.cells #[.slice s.q0 s.n0 s.c0, .slice s.q1 s.n1 s.c1, .slice s.q2 s.n2 s.c2, .slice s.q3 s.n3 s.c3, .slice s.q4 s.n4 s.c4] 80)) := set_far HI0b.out (by omega)
  have HZ1 : Hid ((v1.setCell ⟨w.heap.size + 1 + 1, 0, none⟩ (.slice (some ⟨g0, 0, none⟩) s.n0 s.n0)).heap[w.heap.size + 1]? = some (.cells #[.slice none 0 0, .slice none 0 0, .slice none 0 0, .slice none 0 0, .slice none 0 0] 30)) := set_far HZ0b.out (by omega)
  have HO1 : Hid ((v1.setCell ⟨w.heap.size + 1 + 1, 0, none⟩ (.slice (some ⟨g0, 0, none⟩) s.n0 s.n0)).heap[w.heap.size + 1 + 1]? = some (.cells #[.slice (some ⟨g0, 0, none⟩) s.n0 s.n0, .slice none 0 0, .slice none 0 0, .slice none 0 0, .slice none 0 0] 30)) := set_row5 HO0b.out 0 _
  have HB1 : Hid (Below w.heap.size w (v1.setCell ⟨w.heap.size + 1 + 1, 0, none⟩ (.slice (some ⟨g0, 0, none⟩) s.n0 s.n0))) := HB0b.out.setCell (by simp; omega) _
  have HQ0_1 : Hid (R.RowR (v1.setCell ⟨w.heap.size + 1 + 1, 0, none⟩ (.slice (some ⟨g0, 0, none⟩) s.n0 s.n0)) g0 X.R) := set_far hrow0 (by omega)
  have k0 := boxO_cells HI0b.out
  have o0 := boxO_cells HO0b.out
  skip
  clear hb1 hrow0 hg0 HI0 HZ0 HO0 HB0 HI0b HZ0b HO0b HB0b  
  go_wp2_with fail
  refine (toRs s.q1 X.W s.n1 s.c1 HX.out.l1 HS.out.n1 _ (HX.out.r1.keep HB1.out (Nat.le_refl _))).mono ?_
  rintro e v2 ⟨rfl, hrow1, hb2⟩
  obtain ⟨g1, hg1⟩ : ∃ k, (v1.setCell ⟨w.heap.size + 1 + 1, 0, none⟩ (.slice (some ⟨g0, 0, none⟩) s.n0 s.n0)).heap.size = k := ⟨_, rfl⟩
  have hlt1 : w.heap.size + 1 + 1 < g1 := by rw [← hg1]; exact row_lt HO1.out
  rw [hg1] at hrow1
  try rw [hg1]
  try (have hg1' := hg1; simp only [size_alloc', World.alloc, Array.size_push] at hg1')
  have HI1b : Hid (v2.heap[w.heap.size]? = some (.cells #[.slice s.q0 s.n0 s.c0, .slice s.q1 s.n1 s.c1, .slice s.q2 s.n2 s.c2, .slice s.q3 s.n3 s.c3, .slice s.q4 s.n4 s.c4] 80)) := row_on HI1.out hb2
  have HZ1b : Hid (v2.heap[w.heap.size + 1]? = some (.cells #[.slice none 0 0, .slice none 0 0, .slice none 0 0, .slice none 0 0, .slice none 0 0] 30)) := row_on HZ1.out hb2
  have HO1b : Hid (v2.heap[w.heap.size + 1 + 1]? = some (.cells #[.slice (some ⟨g0, 0, none⟩) s.n0 s.n0, .slice none 0 0, .slice none 0 0, .slice none 0 0, .slice none 0 0] 30)) := row_on HO1.out hb2
  have HB1b : Hid (Below w.heap.size w v2) := bel_on (Nat.le_refl _) HB1.out hb2
  have HQ0_1b : Hid (R.RowR v2 g0 X.R) := HQ0_1.out.on hb2
  have HI2 : Hid ((v2.setCell ⟨w.heap.size + 1 + 1, 1, none⟩ (.slice (some ⟨g1, 0, none⟩) s.n1 s.n1)).heap[w.heap.size]? = some (.cells #[.slice s.q0 s.n0 s.c0, .slice s.q1 s.n1 s.c1, .slice s.q2 s.n2 s.c2, .slice s.q3 s.n3 s.c3, .slice s.q4 s.n4 s.c4] 80)) := set_far HI1b.out (by omega)
  have HZ2 : Hid ((v2.setCell ⟨w.heap.size + 1 + 1, 1, none⟩ (.slice (some ⟨g1, 0, none⟩) s.n1 s.n1)).heap[w.heap.size + 1]? = some (.cells #[.slice none 0 0, .slice none 0 0, .slice none 0 0, .slice none 0 0, .slice none 0 0] 30)) := set_far HZ1b.out (by omega)
  have HO2 : Hid ((v2.setCell ⟨w.heap.size + 1 + 1, 1, none⟩ (.slice (some ⟨g1, 0, none⟩) s.n1 s.n1)).heap[w.heap.size + 1 + 1]? = some (.cells #[.slice (some ⟨g0, 0, none⟩) s.n0 s.n0, .slice (some ⟨g1, 0, none⟩) s.n1 s.n1, .slice none 0 0, .slice none 0 0, .slice none 0 0] 30)) := set_row5 HO1b.out 1 _
  have HB2 : Hid (Below w.heap.size w (v2.setCell ⟨w.heap.size + 1 + 1, 1, none⟩ (.slice (some ⟨g1, 0, none⟩) s.n1 s.n1))) := HB1b.out.setCell (by simp; omega) _
  have HQ0_2 : Hid (R.RowR (v2.setCell ⟨w.heap.size + 1 + 1, 1, none⟩ (.slice (some ⟨g1, 0, none⟩) s.n1 s.n1)) g0 X.R) := set_far HQ0_1b.out (by omega)
  have HQ1_2 : Hid (RowR (v2.setCell ⟨w.heap.size + 1 + 1, 1, none⟩ (.slice (some ⟨g1, 0, none⟩) s.n1 s.n1)) g1 X.W) := set_far hrow1 (by omega)
  have k1 := boxO_cells HI1b.out
  have o1 := boxO_cells HO1b.out
  skip
  clear hb2 hrow1 hg1 HI1 HZ1 HO1 HB1 HI1b HZ1b HO1b HB1b HQ0_1 HQ0_1b k0 o0
  go_wp2_with fail
  refine (toOs s.q2 X.O s.n2 s.c2 HX.out.l2 HS.out.n2 _ (HX.out.r2.keep HB2.out (Nat.le_refl _))).mono ?_
  rintro e v3 ⟨rfl, hrow2, hb3⟩
  obtain ⟨g2, hg2⟩ : ∃ k, (v2.setCell ⟨w.heap.size + 1 + 1, 1, none⟩ (.slice (some ⟨g1, 0, none⟩) s.n1 s.n1)).heap.size = k := ⟨_, rfl⟩
  have hlt2 : w.heap.size + 1 + 1 < g2 := by rw [← hg2]; exact row_lt HO2.out
  rw [hg2] at hrow2
  try rw [hg2]
  try (have hg2' := hg2; simp only [size_alloc', World.alloc, Array.size_push] at hg2')
  have HI2b : Hid (v3.heap[w.heap.size]? = some (.cells #[.slice s.q0 s.n0 s.c0, .slice s.q1 s.n1 s.c1, .slice s.q2 s.n2 s.c2, .slice s.q3 s.n3 s.c3, .slice s.q4 s.n4 s.c4] 80)) := row_on HI2.out hb3
  have HZ2b : Hid (v3.heap[w.heap.size + 1]? = some (.cells #[.slice none 0 0, .slice none 0 0, .slice none 0 0, .slice none 0 0, .slice none 0 0] 30)) := row_on HZ2.out hb3
  have HO2b : Hid (v3.heap[w.heap.size + 1 + 1]? = some (.cells #[.slice (some ⟨g0, 0, none⟩) s.n0 s.n0, .slice (some ⟨g1, 0, none⟩) s.n1 s.n1, .slice none 0 0, .slice none 0 0, .slice none 0 0] 30)) := row_on HO2.out hb3
  have HB2b : Hid (Below w.heap.size w v3) := bel_on (Nat.le_refl _) HB2.out hb3
  have HQ0_2b : Hid (R.RowR v3 g0 X.R) := HQ0_2.out.on hb3
  have HQ1_2b : Hid (RowR v3 g1 X.W) := HQ1_2.out.on hb3
  have HI3 : Hid ((v3.setCell ⟨w.heap.size + 1 + 1, 2, none⟩ (.slice (some ⟨g2, 0, none⟩) s.n2 s.n2)).heap[w.heap.size]? = some (.cells #[.slice s.q0 s.n0 s.c0, .slice s.q1 s.n1 s.c1, .slice s.q2 s.n2 s.c2, .slice s.q3 s.n3 s.c3, .slice s.q4 s.n4 s.c4] 80)) := set_far HI2b.out (by omega)
  have HZ3 : Hid ((v3.setCell ⟨w.heap.size + 1 + 1, 2, none⟩ (.slice (some ⟨g2, 0, none⟩) s.n2 s.n2)).heap[w.heap.size + 1]? = some (.cells #[.slice none 0 0, .slice none 0 0, .slice none 0 0, .slice none 0 0, .slice none 0 0] 30)) := set_far HZ2b.out (by omega)
  have HO3 : Hid ((v3.setCell ⟨w.heap.size + 1 + 1, 2, none⟩ (.slice (some ⟨g2, 0, none⟩) s.n2 s.n2)).heap[w.heap.size + 1 + 1]? = some (.cells #[.slice (some ⟨g0, 0, none⟩) s.n0 s.n0, .slice (some ⟨g1, 0, none⟩) s.n1 s.n1, .slice (some ⟨g2, 0, none⟩) s.n2 s.n2, .slice none 0 0, .slice none 0 0] 30)) := set_row5 HO2b.out 2 _
  have HB3 : Hid (Below w.heap.size w (v3.setCell ⟨w.heap.size + 1 + 1, 2, none⟩ (.slice (some ⟨g2, 0, none⟩) s.n2 s.n2))) := HB2b.out.setCell (by simp; omega) _
  have HQ0_3 : Hid (R.RowR (v3.setCell ⟨w.heap.size + 1 + 1, 2, none⟩ (.slice (some ⟨g2, 0, none⟩) s.n2 s.n2)) g0 X.R) := set_far HQ0_2b.out (by omega)
  have HQ1_3 : Hid (RowR (v3.setCell ⟨w.heap.size + 1 + 1, 2, none⟩ (.slice (some ⟨g2, 0, none⟩) s.n2 s.n2)) g1 X.W) := set_far HQ1_2b.out (by omega)
  have HQ2_3 : Hid (RowO (v3.setCell ⟨w.heap.size + 1 + 1, 2, none⟩ (.slice (some ⟨g2, 0, none⟩) s.n2 s.n2)) g2 X.O) := set_far hrow2 (by omega)
  have k2 := boxO_cells HI2b.out
  have o2 := boxO_cells HO2b.out
  skip
  clear hb3 hrow2 hg2 HI2 HZ2 HO2 HB2 HI2b HZ2b HO2b HB2b HQ0_2 HQ0_2b HQ1_2 HQ1_2b k1 o1
  go_wp2_with fail
  refine (toUs s.q3 X.U s.n3 s.c3 HX.out.l3 HS.out.n3 _ (HX.out.r3.keep HB3.out (Nat.le_refl _))).mono ?_
  rintro e v4 ⟨rfl, hrow3, hb4⟩
  obtain ⟨g3, hg3⟩ : ∃ k, (v3.setCell ⟨w.heap.size + 1 + 1, 2, none⟩ (.slice (some ⟨g2, 0, none⟩) s.n2 s.n2)).heap.size = k := ⟨_, rfl⟩
  have hlt3 : w.heap.size + 1 + 1 < g3 := by rw [← hg3]; exact row_lt HO3.out
  rw [hg3] at hrow3
  try rw [hg3]
  try (have hg3' := hg3; simp only [size_alloc', World.alloc, Array.size_push] at hg3')
  have HI3b : Hid (v4.heap[w.heap.size]? = some (.cells #[.slice s.q0 s.n0 s.c0, .slice s.q1 s.n1 s.c1, .slice s.q2 s.n2 s.c2, .slice s.q3 s.n3 s.c3, .slice s.q4 s.n4 s.c4] 80)) := row_on HI3.out hb4
  have HZ3b : Hid (v4.heap[w.heap.size + 1]? = some (.cells #[.slice none 0 0, .slice none 0 0, .slice none 0 0, .slice none 0 0, .slice none 0 0] 30)) := row_on HZ3.out hb4
  have HO3b : Hid (v4.heap[w.heap.size + 1 + 1]? = some (.cells #[.slice (some ⟨g0, 0, none⟩) s.n0 s.n0, .slice (some ⟨g1, 0, none⟩) s.n1 s.n1, .slice (some ⟨g2, 0, none⟩) s.n2 s.n2, .slice none 0 0, .slice none 0 0] 30)) := row_on HO3.out hb4
  have HB3b : Hid (Below w.heap.size w v4) := bel_on (Nat.le_refl _) HB3.out hb4
  have HQ0_3b : Hid (R.RowR v4 g0 X.R) := HQ0_3.out.on hb4
  have HQ1_3b : Hid (RowR v4 g1 X.W) := HQ1_3.out.on hb4
  have HQ2_3b : Hid (RowO v4 g2 X.O) := HQ2_3.out.on hb4
  have HI4 : Hid ((v4.setCell ⟨w.heap.size + 1 + 1, 3, none⟩ (.slice (some ⟨g3, 0, none⟩) s.n3 s.n3)).heap[w.heap.size]? = some (.cells #[.slice s.q0 s.n0 s.c0, .slice s.q1 s.n1 s.c1, .slice s.q2 s.n2 s.c2, .slice s.q3 s.n3 s.c3, .slice s.q4 s.n4 s.c4] 80)) := set_far HI3b.out (by omega)
  have HZ4 : Hid ((v4.setCell ⟨w.heap.size + 1 + 1, 3, none⟩ (.slice (some ⟨g3, 0, none⟩) s.n3 s.n3)).heap[w.heap.size + 1]? = some (.cells #[.slice none 0 0, .slice none 0 0, .slice none 0 0, .slice none 0 0, .slice none 0 0] 30)) := set_far HZ3b.out (by omega)
  have HO4 : Hid ((v4.setCell ⟨w.heap.size + 1 + 1, 3, none⟩ (.slice (some ⟨g3, 0, none⟩) s.n3 s.n3)).heap[w.heap.size + 1 + 1]? = some (.cells #[.slice (some ⟨g0, 0, none⟩) s.n0 s.n0, .slice (some ⟨g1, 0, none⟩) s.n1 s.n1, .slice (some ⟨g2, 0, none⟩) s.n2 s.n2, .slice (some ⟨g3, 0, none⟩) s.n3 s.n3, .slice none 0 0] 30)) := set_row5 HO3b.out 3 _
  have HB4 : Hid (Below w.heap.size w (v4.setCell ⟨w.heap.size + 1 + 1, 3, none⟩ (.slice (some ⟨g3, 0, none⟩) s.n3 s.n3))) := HB3b.out.setCell (by simp; omega) _
  have HQ0_4 : Hid (R.RowR (v4.setCell ⟨w.heap.size + 1 + 1, 3, none⟩ (.slice (some ⟨g3, 0, none⟩) s.n3 s.n3)) g0 X.R) := set_far HQ0_3b.out (by omega)
  have HQ1_4 : Hid (RowR (v4.setCell ⟨w.heap.size + 1 + 1, 3, none⟩ (.slice (some ⟨g3, 0, none⟩) s.n3 s.n3)) g1 X.W) := set_far HQ1_3b.out (by omega)
  have HQ2_4 : Hid (RowO (v4.setCell ⟨w.heap.size + 1 + 1, 3, none⟩ (.slice (some ⟨g3, 0, none⟩) s.n3 s.n3)) g2 X.O) := set_far HQ2_3b.out (by omega)
  have HQ3_4 : Hid (RowU (v4.setCell ⟨w.heap.size + 1 + 1, 3, none⟩ (.slice (some ⟨g3, 0, none⟩) s.n3 s.n3)) g3 X.U) := set_far hrow3 (by omega)
  have k3 := boxO_cells HI3b.out
  have o3 := boxO_cells HO3b.out
  skip
  clear hb4 hrow3 hg3 HI3 HZ3 HO3 HB3 HI3b HZ3b HO3b HB3b HQ0_3 HQ0_3b HQ1_3 HQ1_3b HQ2_3 HQ2_3b k2 o2
  go_wp2_with fail
  refine (S.toSs s.q4 X.S s.n4 s.c4 HX.out.l4 HS.out.n4 _ (HX.out.r4.keep HB4.out (Nat.le_refl _))).mono ?_
  rintro e v5 ⟨rfl, hrow4, hb5⟩
  obtain ⟨g4, hg4⟩ : ∃ k, (v4.setCell ⟨w.heap.size + 1 + 1, 3, none⟩ (.slice (some ⟨g3, 0, none⟩) s.n3 s.n3)).heap.size = k := ⟨_, rfl⟩
  have hlt4 : w.heap.size + 1 + 1 < g4 := by rw [← hg4]; exact row_lt HO4.out
  rw [hg4] at hrow4
  try rw [hg4]
  try (have hg4' := hg4; simp only [size_alloc', World.alloc, Array.size_push] at hg4')
  have HI4b : Hid (v5.heap[w.heap.size]? = some (.cells #[.slice s.q0 s.n0 s.c0, .slice s.q1 s.n1 s.c1, .slice s.q2 s.n2 s.c2, .slice s.q3 s.n3 s.c3, .slice s.q4 s.n4 s.c4] 80)) := row_on HI4.out hb5
  have HZ4b : Hid (v5.heap[w.heap.size + 1]? = some (.cells #[.slice none 0 0, .slice none 0 0, .slice none 0 0, .slice none 0 0, .slice none 0 0] 30)) := row_on HZ4.out hb5
  have HO4b : Hid (v5.heap[w.heap.size + 1 + 1]? = some (.cells #[.slice (some ⟨g0, 0, none⟩) s.n0 s.n0, .slice (some ⟨g1, 0, none⟩) s.n1 s.n1, .slice (some ⟨g2, 0, none⟩) s.n2 s.n2, .slice (some ⟨g3, 0, none⟩) s.n3 s.n3, .slice none 0 0] 30)) := row_on HO4.out hb5
  have HB4b : Hid (Below w.heap.size w v5) := bel_on (Nat.le_refl _) HB4.out hb5
  have HQ0_4b : Hid (R.RowR v5 g0 X.R) := HQ0_4.out.on hb5
  have HQ1_4b : Hid (RowR v5 g1 X.W) := HQ1_4.out.on hb5
  have HQ2_4b : Hid (RowO v5 g2 X.O) := HQ2_4.out.on hb5
  have HQ3_4b : Hid (RowU v5 g3 X.U) := HQ3_4.out.on hb5
  have HI5 : Hid ((v5.setCell ⟨w.heap.size + 1 + 1, 4, none⟩ (.slice (some ⟨g4, 0, none⟩) s.n4 s.n4)).heap[w.heap.size]? = some (.cells #[.slice s.q0 s.n0 s.c0, .slice s.q1 s.n1 s.c1, .slice s.q2 s.n2 s.c2, .slice s.q3 s.n3 s.c3, .slice s.q4 s.n4 s.c4] 80)) := set_far HI4b.out (by omega)
  have HZ5 : Hid ((v5.setCell ⟨w.heap.size + 1 + 1, 4, none⟩ (.slice (some ⟨g4, 0, none⟩) s.n4 s.n4)).heap[w.heap.size + 1]? = some (.cells #[.slice none 0 0, .slice none 0 0, .slice none 0 0, .slice none 0 0, .slice none 0 0] 30)) := set_far HZ4b.out (by omega)
  have HO5 : Hid ((v5.setCell ⟨w.heap.size + 1 + 1, 4, none⟩ (.slice (some ⟨g4, 0, none⟩) s.n4 s.n4)).heap[w.heap.size + 1 + 1]? = some (.cells #[.slice (some ⟨g0, 0, none⟩) s.n0 s.n0, .slice (some ⟨g1, 0, none⟩) s.n1 s.n1, .slice (some ⟨g2, 0, none⟩) s.n2 s.n2, .slice (some ⟨g3, 0, none⟩) s.n3 s.n3, .slice (some ⟨g4, 0, none⟩) s.n4 s.n4] 30)) := set_row5 HO4b.out 4 _
  have HB5 : Hid (Below w.heap.size w (v5.setCell ⟨w.heap.size + 1 + 1, 4, none⟩ (.slice (some ⟨g4, 0, none⟩) s.n4 s.n4))) := HB4b.out.setCell (by simp; omega) _
  have HQ0_5 : Hid (R.RowR (v5.setCell ⟨w.heap.size + 1 + 1, 4, none⟩ (.slice (some ⟨g4, 0, none⟩) s.n4 s.n4)) g0 X.R) := set_far HQ0_4b.out (by omega)
  have HQ1_5 : Hid (RowR (v5.setCell ⟨w.heap.size + 1 + 1, 4, none⟩ (.slice (some ⟨g4, 0, none⟩) s.n4 s.n4)) g1 X.W) := set_far HQ1_4b.out (by omega)
  have HQ2_5 : Hid (RowO (v5.setCell ⟨w.heap.size + 1 + 1, 4, none⟩ (.slice (some ⟨g4, 0, none⟩) s.n4 s.n4)) g2 X.O) := set_far HQ2_4b.out (by omega)
  have HQ3_5 : Hid (RowU (v5.setCell ⟨w.heap.size + 1 + 1, 4, none⟩ (.slice (some ⟨g4, 0, none⟩) s.n4 s.n4)) g3 X.U) := set_far HQ3_4b.out (by omega)
  have HQ4_5 : Hid (S.RowS (v5.setCell ⟨w.heap.size + 1 + 1, 4, none⟩ (.slice (some ⟨g4, 0, none⟩) s.n4 s.n4)) g4 X.S) := set_far hrow4 (by omega)
  have k4 := boxO_cells HI4b.out
  have o4 := boxO_cells HO4b.out
  have z4 := boxO_cells HZ4b.out
  clear hb5 hrow4 hg4 HI4 HZ4 HO4 HB4 HI4b HZ4b HO4b HB4b HQ0_4 HQ0_4b HQ1_4 HQ1_4b HQ2_4 HQ2_4b HQ3_4 HQ3_4b k3 o3
  clear k4
  go_wp2
  refine bodyPost_ret (v := .agg #[.slice (some ⟨g0, 0, none⟩) s.n0 s.n0, .slice (some ⟨g1, 0, none⟩) s.n1 s.n1, .slice (some ⟨g2, 0, none⟩) s.n2 s.n2, .slice (some ⟨g3, 0, none⟩) s.n3 s.n3, .slice (some ⟨g4, 0, none⟩) s.n4 s.n4]) (by simp [results, Try.results64, go_sem, z4]) rfl ⟨⟨some ⟨g0, 0, none⟩, s.n0, s.n0, some ⟨g1, 0, none⟩, s.n1, s.n1, some ⟨g2, 0, none⟩, s.n2, s.n2, some ⟨g3, 0, none⟩, s.n3, s.n3, some ⟨g4, 0, none⟩, s.n4, s.n4⟩, rfl, ⟨g0, g1, g2, g3, g4, by rw [HX.out.l0, HX.out.l1, HX.out.l2, HX.out.l3, HX.out.l4], ⟨by omega, by omega, by omega, by omega, by omega⟩, set_far5 HQ0_5.out (by omega), set_far5 HQ1_5.out (by omega), set_far5 HQ2_5.out (by omega), set_far5 HQ3_5.out (by omega), set_far5 HQ4_5.out (by omega)⟩, ?_⟩
  exact ((((HB5.out.setCell (by simp) _).setCell (by simp) _).setCell (by simp) _).setCell (by simp) _).setCell (by simp) _
set_option maxRecDepth 100000 in
set_option maxHeartbeats 8000000 in
theorem toK (k : KH) (K : KX) (w : World) (h : RdK w k K) (hs : SmK k K) :
    Calls Try.prog 24 #[KerV k K] w fun e w' => ∃ k', e = .returned (KerV k' K) ∧ OwnK w' w.heap.size k' K ∧ Below w.heap.size w w' := by
  obtain ⟨s, qA, cA, qP, cP, qL, cL, qO, cO, qE, cE⟩ := k
  obtain ⟨X, A, P, L, O, tu, sp, E⟩ := K
  have HX : Hid (RdK w ⟨s, qA, cA, qP, cP, qL, cL, qO, cO, qE, cE⟩ ⟨X, A, P, L, O, tu, sp, E⟩) := h
  have HS : Hid (SmK ⟨s, qA, cA, qP, cP, qL, cL, qO, cO, qE, cE⟩ ⟨X, A, P, L, O, tu, sp, E⟩) := hs
  obtain ⟨nA, hA⟩ : ∃ n, A.length = n := ⟨_, rfl⟩
  obtain ⟨nP, hP⟩ : ∃ n, P.length = n := ⟨_, rfl⟩
  obtain ⟨nL, hL⟩ : ∃ n, L.length = n := ⟨_, rfl⟩
  obtain ⟨nO, hO⟩ : ∃ n, O.length = n := ⟨_, rfl⟩
  obtain ⟨nE, hE⟩ : ∃ n, E.length = n := ⟨_, rfl⟩
  have HNA : Hid (A.length = nA) := hA
  have HNP : Hid (P.length = nP) := hP
  have HNL : Hid (L.length = nL) := hL
  have HNO : Hid (O.length = nO) := hO
  have HNE : Hid (E.length = nE) := hE
  have bA : nA ≤ 1048576 := by rw [← hA]; exact hs.a
  have bP : nP ≤ 1048576 := by rw [← hP]; exact hs.p
  have bL : nL ≤ 1048576 := by rw [← hL]; exact hs.l
  have bO : nO ≤ 1048576 := by rw [← hO]; exact hs.o
  have bE : nE ≤ 1048576 := by rw [← hE]; exact hs.e
  unfold KerV
  dsimp only
  rw [hA, hP, hL, hO, hE]
  have HI0 : Hid ((((w.alloc (.cells #[.slice s.q0 s.n0 s.c0, .slice s.q1 s.n1 s.c1, .slice s.q2 s.n2 s.c2, .slice s.q3 s.n3 s.c3, .slice s.q4 s.n4 s.c4, .slice qA nA cA, .slice qP nP cP, .slice qL nL cL, .slice qO nO cO, .int .i64 tu, .bool sp, .slice qE nE cE] 86)).alloc (.cells #[.slice none 0 0, .slice none 0 0, .slice none 0 0, .slice none 0 0, .slice none 0 0, .slice none 0 0, .slice none 0 0, .slice none 0 0, .slice none 0 0, .int .i64 0, .bool false, .slice none 0 0] 38)).alloc (.cells #[.slice none 0 0, .slice none 0 0, .slice none 0 0, .slice none 0 0, .slice none 0 0, .slice none 0 0, .slice none 0 0, .slice none 0 0, .slice none 0 0, .int .i64 0, .bool false, .slice none 0 0] 38)).heap[w.heap.size]? = some (.cells #[.slice s.q0 s.n0 s.c0, .slice s.q1 s.n1 s.c1, .slice s.q2 s.n2 s.c2, .slice s.q3 s.n3 s.c3, .slice s.q4 s.n4 s.c4, .slice qA nA cA, .slice qP nP cP, .slice qL nL cL, .slice qO nO cO, .int .i64 tu, .bool sp, .slice qE nE cE] 86)) := al3_1 w (.cells #[.slice s.q0 s.n0 s.c0, .slice s.q1 s.n1 s.c1, .slice s.q2 s.n2 s.c2, .slice s.q3 s.n3 s.c3, .slice s.q4 s.n4 s.c4, .slice qA nA cA, .slice qP nP cP, .slice qL nL cL, .slice qO nO cO, .int .i64 tu, .bool sp, .slice qE nE cE] 86) (.cells #[.slice none 0 0, .slice none 0 0, .slice none 0 0, .slice none 0 0, .slice none 0 0, .slice none 0 0, .slice none 0 0, .slice none 0 0, .slice none 0 0, .int .i64 0, .bool false, .slice none 0 0] 38) (.cells #[.slice none 0 0, .slice none 0 0, .slice none 0 0, .slice none 0 0, .slice none 0 0, .slice none 0 0, .slice none 0 0, .slice none 0 0, .slice none 0 0, .int .i64 0, .bool false, .slice none 0 0] 38)
  have HZ0 : Hid ((((w.alloc (.cells #[.slice s.q0 s.n0 s.c0, .slice s.q1 s.n1 s.c1, .slice s.q2 s.n2 s.c2, .slice s.q3 s.n3 s.c3, .slice s.q4 s.n4 s.c4, .slice qA nA cA, .slice qP nP cP, .slice qL nL cL, .slice qO nO cO, .int .i64 tu, .bool sp, .slice qE nE cE] 86)).alloc (.cells #[.slice none 0 0, .slice none 0 0, .slice none 0 0, .slice none 0 0, .slice none 0 0, .slice none 0 0, .slice none 0 0, .slice none 0 0, .slice none 0 0, .int .i64 0, .bool false, .slice none 0 0] 38)).alloc (.cells #[.slice none 0 0, .slice none 0 0, .slice none 0 0, .slice none 0 0, .slice none 0 0, .slice none 0 0, .slice none 0 0, .slice none 0 0, .slice none 0 0, .int .i64 0, .bool false, .slice none 0 0] 38)).heap[w.heap.size + 1]? = some (.cells #[.slice none 0 0, .slice none 0 0, .slice none 0 0, .slice none 0 0, .slice none 0 0, .slice none 0 0, .slice none 0 0, .slice none 0 0, .slice none 0 0, .int .i64 0, .bool false, .slice none 0 0] 38)) := al3_2 w (.cells #[.slice s.q0 s.n0 s.c0, .slice s.q1 s.n1 s.c1, .slice s.q2 s.n2 s.c2, .slice s.q3 s.n3 s.c3, .slice s.q4 s.n4 s.c4, .slice qA nA cA, .slice qP nP cP, .slice qL nL cL, .slice qO nO cO, .int .i64 tu, .bool sp, .slice qE nE cE] 86) (.cells #[.slice none 0 0, .slice none 0 0, .slice none 0 0, .slice none 0 0, .slice none 0 0, .slice none 0 0, .slice none 0 0, .slice none 0 0, .slice none 0 0, .int .i64 0, .bool false, .slice none 0 0] 38) (.cells #[.slice none 0 0, .slice none 0 0, .slice none 0 0, .slice none 0 0, .slice none 0 0, .slice none 0 0, .slice none 0 0, .slice none 0 0, .slice none 0 0, .int .i64 0, .bool false, .slice none 0 0] 38)
  have HO0 : Hid ((((w.alloc (.cells #[.slice s.q0 s.n0 s.c0, .slice s.q1 s.n1 s.c1, .slice s.q2 s.n2 s.c2, .slice s.q3 s.n3 s.c3, .slice s.q4 s.n4 s.c4, .slice qA nA cA, .slice qP nP cP, .slice qL nL cL, .slice qO nO cO, .int .i64 tu, .bool sp, .slice qE nE cE] 86)).alloc (.cells #[.slice none 0 0, .slice none 0 0, .slice none 0 0, .slice none 0 0, .slice none 0 0, .slice none 0 0, .slice none 0 0, .slice none 0 0, .slice none 0 0, .int .i64 0, .bool false, .slice none 0 0] 38)).alloc (.cells #[.slice none 0 0, .slice none 0 0, .slice none 0 0, .slice none 0 0, .slice none 0 0, .slice none 0 0, .slice none 0 0, .slice none 0 0, .slice none 0 0, .int .i64 0, .bool false, .slice none 0 0] 38)).heap[w.heap.size + 1 + 1]? = some (.cells #[.slice none 0 0, .slice none 0 0, .slice none 0 0, .slice none 0 0, .slice none 0 0, .slice none 0 0, .slice none 0 0, .slice none 0 0, .slice none 0 0, .int .i64 0, .bool false, .slice none 0 0] 38)) := al3_3 w (.cells #[.slice s.q0 s.n0 s.c0, .slice s.q1 s.n1 s.c1, .slice s.q2 s.n2 s.c2, .slice s.q3 s.n3 s.c3, .slice s.q4 s.n4 s.c4, .slice qA nA cA, .slice qP nP cP, .slice qL nL cL, .slice qO nO cO, .int .i64 tu, .bool sp, .slice qE nE cE] 86) (.cells #[.slice none 0 0, .slice none 0 0, .slice none 0 0, .slice none 0 0, .slice none 0 0, .slice none 0 0, .slice none 0 0, .slice none 0 0, .slice none 0 0, .int .i64 0, .bool false, .slice none 0 0] 38) (.cells #[.slice none 0 0, .slice none 0 0, .slice none 0 0, .slice none 0 0, .slice none 0 0, .slice none 0 0, .slice none 0 0, .slice none 0 0, .slice none 0 0, .int .i64 0, .bool false, .slice none 0 0] 38)
  have HB0 : Hid (Below w.heap.size w (((w.alloc (.cells #[.slice s.q0 s.n0 s.c0, .slice s.q1 s.n1 s.c1, .slice s.q2 s.n2 s.c2, .slice s.q3 s.n3 s.c3, .slice s.q4 s.n4 s.c4, .slice qA nA cA, .slice qP nP cP, .slice qL nL cL, .slice qO nO cO, .int .i64 tu, .bool sp, .slice qE nE cE] 86)).alloc (.cells #[.slice none 0 0, .slice none 0 0, .slice none 0 0, .slice none 0 0, .slice none 0 0, .slice none 0 0, .slice none 0 0, .slice none 0 0, .slice none 0 0, .int .i64 0, .bool false, .slice none 0 0] 38)).alloc (.cells #[.slice none 0 0, .slice none 0 0, .slice none 0 0, .slice none 0 0, .slice none 0 0, .slice none 0 0, .slice none 0 0, .slice none 0 0, .slice none 0 0, .int .i64 0, .bool false, .slice none 0 0] 38))) := al3_b w (.cells #[.slice s.q0 s.n0 s.c0, .slice s.q1 s.n1 s.c1, .slice s.q2 s.n2 s.c2, .slice s.q3 s.n3 s.c3, .slice s.q4 s.n4 s.c4, .slice qA nA cA, .slice qP nP cP, .slice qL nL cL, .slice qO nO cO, .int .i64 tu, .bool sp, .slice qE nE cE] 86) (.cells #[.slice none 0 0, .slice none 0 0, .slice none 0 0, .slice none 0 0, .slice none 0 0, .slice none 0 0, .slice none 0 0, .slice none 0 0, .slice none 0 0, .int .i64 0, .bool false, .slice none 0 0] 38) (.cells #[.slice none 0 0, .slice none 0 0, .slice none 0 0, .slice none 0 0, .slice none 0 0, .slice none 0 0, .slice none 0 0, .slice none 0 0, .slice none 0 0, .int .i64 0, .bool false, .slice none 0 0] 38)
  clear h hs hA hP hL hO hE
  go_enter Try.func24, Try.ntmps24
  go_wp2_with fail
  refine (toSetR s X _ (HX.out.x.on HB0.out) HS.out.x).mono ?_
  rintro e v1 ⟨s', rfl, hnew1, hb1⟩
  have hsz1 : w.heap.size + 3 ≤ (((w.alloc (.cells #[.slice s.q0 s.n0 s.c0, .slice s.q1 s.n1 s.c1, .slice s.q2 s.n2 s.c2, .slice s.q3 s.n3 s.c3, .slice s.q4 s.n4 s.c4, .slice qA nA cA, .slice qP nP cP, .slice qL nL cL, .slice qO nO cO, .int .i64 tu, .bool sp, .slice qE nE cE] 86)).alloc (.cells #[.slice none 0 0, .slice none 0 0, .slice none 0 0, .slice none 0 0, .slice none 0 0, .slice none 0 0, .slice none 0 0, .slice none 0 0, .slice none 0 0, .int .i64 0, .bool false, .slice none 0 0] 38)).alloc (.cells #[.slice none 0 0, .slice none 0 0, .slice none 0 0, .slice none 0 0, .slice none 0 0, .slice none 0 0, .slice none 0 0, .slice none 0 0, .slice none 0 0, .int .i64 0, .bool false, .slice none 0 0] 38)).heap.size := by have := row_lt HO0.out; omega
  unfold SetV
  dsimp only
  have HI1b : Hid (v1.heap[w.heap.size]? = some (.cells #[.slice s.q0 s.n0 s.c0, .slice s.q1 s.n1 s.c1, .slice s.q2 s.n2 s.c2, .slice s.q3 s.n3 s.c3, .slice s.q4 s.n4 s.c4, .slice qA nA cA, .slice qP nP cP, .slice qL nL cL, .slice qO nO cO, .int .i64 tu, .bool sp, .slice qE nE cE] 86)) := row_on HI0.out hb1
  have HZ1b : Hid (v1.heap[w.heap.size + 1]? = some (.cells #[.slice none 0 0, .slice none 0 0, .slice none 0 0, .slice none 0 0, .slice none 0 0, .slice none 0 0, .slice none 0 0, .slice none 0 0, .slice none 0 0, .int .i64 0, .bool false, .slice none 0 0] 38)) := row_on HZ0.out hb1
  have HO1b : Hid (v1.heap[w.heap.size + 1 + 1]? = some (.cells #[.slice none 0 0, .slice none 0 0, .slice none 0 0, .slice none 0 0, .slice none 0 0, .slice none 0 0, .slice none 0 0, .slice none 0 0, .slice none 0 0, .int .i64 0, .bool false, .slice none 0 0] 38)) := row_on HO0.out hb1
  have HB1b : Hid (Below w.heap.size w v1) := bel_on (Nat.le_refl _) HB0.out hb1
  have HX1b : Hid (RwX v1 (w.heap.size + 3) s' X) := hnew1.less hsz1
  have kI1 := box12_cells HI1b.out
  have kO1 := box12_cells HO1b.out
  have HI1 : Hid ((((((v1.setCell ⟨w.heap.size + 1 + 1, 0, none⟩ ((.slice s'.q0 s'.n0 s'.c0))).setCell ⟨w.heap.size + 1 + 1, 1, none⟩ ((.slice s'.q1 s'.n1 s'.c1))).setCell ⟨w.heap.size + 1 + 1, 2, none⟩ ((.slice s'.q2 s'.n2 s'.c2))).setCell ⟨w.heap.size + 1 + 1, 3, none⟩ ((.slice s'.q3 s'.n3 s'.c3))).setCell ⟨w.heap.size + 1 + 1, 4, none⟩ ((.slice s'.q4 s'.n4 s'.c4))).heap[w.heap.size]? = some (.cells #[.slice s.q0 s.n0 s.c0, .slice s.q1 s.n1 s.c1, .slice s.q2 s.n2 s.c2, .slice s.q3 s.n3 s.c3, .slice s.q4 s.n4 s.c4, .slice qA nA cA, .slice qP nP cP, .slice qL nL cL, .slice qO nO cO, .int .i64 tu, .bool sp, .slice qE nE cE] 86)) := set_far (set_far (set_far (set_far (set_far (HI1b.out) (by omega)) (by omega)) (by omega)) (by omega)) (by omega)
  have HZ1 : Hid ((((((v1.setCell ⟨w.heap.size + 1 + 1, 0, none⟩ ((.slice s'.q0 s'.n0 s'.c0))).setCell ⟨w.heap.size + 1 + 1, 1, none⟩ ((.slice s'.q1 s'.n1 s'.c1))).setCell ⟨w.heap.size + 1 + 1, 2, none⟩ ((.slice s'.q2 s'.n2 s'.c2))).setCell ⟨w.heap.size + 1 + 1, 3, none⟩ ((.slice s'.q3 s'.n3 s'.c3))).setCell ⟨w.heap.size + 1 + 1, 4, none⟩ ((.slice s'.q4 s'.n4 s'.c4))).heap[w.heap.size + 1]? = some (.cells #[.slice none 0 0, .slice none 0 0, .slice none 0 0, .slice none 0 0, .slice none 0 0, .slice none 0 0, .slice none 0 0, .slice none 0 0, .slice none 0 0, .int .i64 0, .bool false, .slice none 0 0] 38)) := set_far (set_far (set_far (set_far (set_far (HZ1b.out) (by omega)) (by omega)) (by omega)) (by omega)) (by omega)
  have HO1 : Hid ((((((v1.setCell ⟨w.heap.size + 1 + 1, 0, none⟩ ((.slice s'.q0 s'.n0 s'.c0))).setCell ⟨w.heap.size + 1 + 1, 1, none⟩ ((.slice s'.q1 s'.n1 s'.c1))).setCell ⟨w.heap.size + 1 + 1, 2, none⟩ ((.slice s'.q2 s'.n2 s'.c2))).setCell ⟨w.heap.size + 1 + 1, 3, none⟩ ((.slice s'.q3 s'.n3 s'.c3))).setCell ⟨w.heap.size + 1 + 1, 4, none⟩ ((.slice s'.q4 s'.n4 s'.c4))).heap[w.heap.size + 1 + 1]? = some (.cells #[(.slice s'.q0 s'.n0 s'.c0), (.slice s'.q1 s'.n1 s'.c1), (.slice s'.q2 s'.n2 s'.c2), (.slice s'.q3 s'.n3 s'.c3), (.slice s'.q4 s'.n4 s'.c4), .slice none 0 0, .slice none 0 0, .slice none 0 0, .slice none 0 0, .int .i64 0, .bool false, .slice none 0 0] 38)) := set_row5 (set_row5 (set_row5 (set_row5 (set_row5 (HO1b.out) 0 _) 1 _) 2 _) 3 _) 4 _
  have HB1 : Hid (Below w.heap.size w (((((v1.setCell ⟨w.heap.size + 1 + 1, 0, none⟩ ((.slice s'.q0 s'.n0 s'.c0))).setCell ⟨w.heap.size + 1 + 1, 1, none⟩ ((.slice s'.q1 s'.n1 s'.c1))).setCell ⟨w.heap.size + 1 + 1, 2, none⟩ ((.slice s'.q2 s'.n2 s'.c2))).setCell ⟨w.heap.size + 1 + 1, 3, none⟩ ((.slice s'.q3 s'.n3 s'.c3))).setCell ⟨w.heap.size + 1 + 1, 4, none⟩ ((.slice s'.q4 s'.n4 s'.c4)))) := Below.setCell (Below.setCell (Below.setCell (Below.setCell (Below.setCell (HB1b.out) (show w.heap.size ≤ w.heap.size + 1 + 1 by omega) _) (show w.heap.size ≤ w.heap.size + 1 + 1 by omega) _) (show w.heap.size ≤ w.heap.size + 1 + 1 by omega) _) (show w.heap.size ≤ w.heap.size + 1 + 1 by omega) _) (show w.heap.size ≤ w.heap.size + 1 + 1 by omega) _
  have HX1 : Hid (RwX (((((v1.setCell ⟨w.heap.size + 1 + 1, 0, none⟩ ((.slice s'.q0 s'.n0 s'.c0))).setCell ⟨w.heap.size + 1 + 1, 1, none⟩ ((.slice s'.q1 s'.n1 s'.c1))).setCell ⟨w.heap.size + 1 + 1, 2, none⟩ ((.slice s'.q2 s'.n2 s'.c2))).setCell ⟨w.heap.size + 1 + 1, 3, none⟩ ((.slice s'.q3 s'.n3 s'.c3))).setCell ⟨w.heap.size + 1 + 1, 4, none⟩ ((.slice s'.q4 s'.n4 s'.c4))) (w.heap.size + 3) s' X) := (((((HX1b.out).agree (agr_set (by omega))).agree (agr_set (by omega))).agree (agr_set (by omega))).agree (agr_set (by omega))).agree (agr_set (by omega))
  clear hb1 HI0 HZ0 HO0 HB0  HI1b HZ1b HO1b HB1b HX1b hsz1
  go_upto_region 3 with fail
  obtain ⟨u3, hu3⟩ : ∃ x, x = (((((v1.setCell ⟨w.heap.size + 1 + 1, 0, none⟩ ((.slice s'.q0 s'.n0 s'.c0))).setCell ⟨w.heap.size + 1 + 1, 1, none⟩ ((.slice s'.q1 s'.n1 s'.c1))).setCell ⟨w.heap.size + 1 + 1, 2, none⟩ ((.slice s'.q2 s'.n2 s'.c2))).setCell ⟨w.heap.size + 1 + 1, 3, none⟩ ((.slice s'.q3 s'.n3 s'.c3))).setCell ⟨w.heap.size + 1 + 1, 4, none⟩ ((.slice s'.q4 s'.n4 s'.c4))) := ⟨_, rfl⟩
  rw [← hu3] at HI1 HZ1 HO1 HB1 HX1 ⊢
  clear hu3 kI1 kO1
  have kI1 := box12_cells HI1.out
  have kO1 := box12_cells HO1.out
  go_wp2_with fail
  refine (C.toA qA A nA cA HNA.out bA _ (HX.out.a.keep HB1.out (Nat.le_refl _))).mono ?_
  rintro e v2 ⟨gA, rfl, hgA, hnew2, hb2⟩
  have hsz2 : w.heap.size + 3 ≤ u3.heap.size := by have := row_lt HO1.out; omega
  have HI2b : Hid (v2.heap[w.heap.size]? = some (.cells #[.slice s.q0 s.n0 s.c0, .slice s.q1 s.n1 s.c1, .slice s.q2 s.n2 s.c2, .slice s.q3 s.n3 s.c3, .slice s.q4 s.n4 s.c4, .slice qA nA cA, .slice qP nP cP, .slice qL nL cL, .slice qO nO cO, .int .i64 tu, .bool sp, .slice qE nE cE] 86)) := row_on HI1.out hb2
  have HZ2b : Hid (v2.heap[w.heap.size + 1]? = some (.cells #[.slice none 0 0, .slice none 0 0, .slice none 0 0, .slice none 0 0, .slice none 0 0, .slice none 0 0, .slice none 0 0, .slice none 0 0, .slice none 0 0, .int .i64 0, .bool false, .slice none 0 0] 38)) := row_on HZ1.out hb2
  have HO2b : Hid (v2.heap[w.heap.size + 1 + 1]? = some (.cells #[(.slice s'.q0 s'.n0 s'.c0), (.slice s'.q1 s'.n1 s'.c1), (.slice s'.q2 s'.n2 s'.c2), (.slice s'.q3 s'.n3 s'.c3), (.slice s'.q4 s'.n4 s'.c4), .slice none 0 0, .slice none 0 0, .slice none 0 0, .slice none 0 0, .int .i64 0, .bool false, .slice none 0 0] 38)) := row_on HO1.out hb2
  have HB2b : Hid (Below w.heap.size w v2) := bel_on (Nat.le_refl _) HB1.out hb2
  have HX2b : Hid (RwX v2 (w.heap.size + 3) s' X) := HX1.out.agree (agr_below _ hb2)
  have HA2b : Hid (RwI v2 (w.heap.size + 3) (some ⟨gA, 0, none⟩) A) := ⟨gA, rfl, by omega, hnew2⟩
  have kI2 := box12_cells HI2b.out
  have kO2 := box12_cells HO2b.out
  have HI2 : Hid ((v2.setCell ⟨w.heap.size + 1 + 1, 5, none⟩ ((.slice (some ⟨gA, 0, none⟩) nA nA))).heap[w.heap.size]? = some (.cells #[.slice s.q0 s.n0 s.c0, .slice s.q1 s.n1 s.c1, .slice s.q2 s.n2 s.c2, .slice s.q3 s.n3 s.c3, .slice s.q4 s.n4 s.c4, .slice qA nA cA, .slice qP nP cP, .slice qL nL cL, .slice qO nO cO, .int .i64 tu, .bool sp, .slice qE nE cE] 86)) := set_far (HI2b.out) (by omega)
  have HZ2 : Hid ((v2.setCell ⟨w.heap.size + 1 + 1, 5, none⟩ ((.slice (some ⟨gA, 0, none⟩) nA nA))).heap[w.heap.size + 1]? = some (.cells #[.slice none 0 0, .slice none 0 0, .slice none 0 0, .slice none 0 0, .slice none 0 0, .slice none 0 0, .slice none 0 0, .slice none 0 0, .slice none 0 0, .int .i64 0, .bool false, .slice none 0 0] 38)) := set_far (HZ2b.out) (by omega)
  have HO2 : Hid ((v2.setCell ⟨w.heap.size + 1 + 1, 5, none⟩ ((.slice (some ⟨gA, 0, none⟩) nA nA))).heap[w.heap.size + 1 + 1]? = some (.cells #[(.slice s'.q0 s'.n0 s'.c0), (.slice s'.q1 s'.n1 s'.c1), (.slice s'.q2 s'.n2 s'.c2), (.slice s'.q3 s'.n3 s'.c3), (.slice s'.q4 s'.n4 s'.c4), (.slice (some ⟨gA, 0, none⟩) nA nA), .slice none 0 0, .slice none 0 0, .slice none 0 0, .int .i64 0, .bool false, .slice none 0 0] 38)) := set_row5 (HO2b.out) 5 _
  have HB2 : Hid (Below w.heap.size w (v2.setCell ⟨w.heap.size + 1 + 1, 5, none⟩ ((.slice (some ⟨gA, 0, none⟩) nA nA)))) := Below.setCell (HB2b.out) (show w.heap.size ≤ w.heap.size + 1 + 1 by omega) _
  have HX2 : Hid (RwX (v2.setCell ⟨w.heap.size + 1 + 1, 5, none⟩ ((.slice (some ⟨gA, 0, none⟩) nA nA))) (w.heap.size + 3) s' X) := (HX2b.out).agree (agr_set (by omega))
  have HA2 : Hid (RwI (v2.setCell ⟨w.heap.size + 1 + 1, 5, none⟩ ((.slice (some ⟨gA, 0, none⟩) nA nA))) (w.heap.size + 3) (some ⟨gA, 0, none⟩) A) := (HA2b.out).agree (agr_set (by omega))
  clear hb2 HI1 HZ1 HO1 HB1 HX1 HI2b HZ2b HO2b HB2b HX2b HA2b kI1 kO1 hsz2
  go_upto_region 4 with fail
  obtain ⟨u4, hu4⟩ : ∃ x, x = (v2.setCell ⟨w.heap.size + 1 + 1, 5, none⟩ ((.slice (some ⟨gA, 0, none⟩) nA nA))) := ⟨_, rfl⟩
  rw [← hu4] at HI2 HZ2 HO2 HB2 HX2 HA2 ⊢
  clear hu4 kI2 kO2
  have kI2 := box12_cells HI2.out
  have kO2 := box12_cells HO2.out
  go_wp2_with fail
  refine (toPs qP P nP cP HNP.out bP HS.out.ps _ (HX.out.p.keep HB2.out (Nat.le_refl _))).mono ?_
  rintro e v3 ⟨rfl, hnew3, hb3⟩
  have hsz3 : w.heap.size + 3 ≤ u4.heap.size := by have := row_lt HO2.out; omega
  obtain ⟨gP, hg3⟩ : ∃ k, u4.heap.size = k := ⟨_, rfl⟩
  rw [hg3] at hnew3
  try rw [hg3]
  have HI3b : Hid (v3.heap[w.heap.size]? = some (.cells #[.slice s.q0 s.n0 s.c0, .slice s.q1 s.n1 s.c1, .slice s.q2 s.n2 s.c2, .slice s.q3 s.n3 s.c3, .slice s.q4 s.n4 s.c4, .slice qA nA cA, .slice qP nP cP, .slice qL nL cL, .slice qO nO cO, .int .i64 tu, .bool sp, .slice qE nE cE] 86)) := row_on HI2.out hb3
  have HZ3b : Hid (v3.heap[w.heap.size + 1]? = some (.cells #[.slice none 0 0, .slice none 0 0, .slice none 0 0, .slice none 0 0, .slice none 0 0, .slice none 0 0, .slice none 0 0, .slice none 0 0, .slice none 0 0, .int .i64 0, .bool false, .slice none 0 0] 38)) := row_on HZ2.out hb3
  have HO3b : Hid (v3.heap[w.heap.size + 1 + 1]? = some (.cells #[(.slice s'.q0 s'.n0 s'.c0), (.slice s'.q1 s'.n1 s'.c1), (.slice s'.q2 s'.n2 s'.c2), (.slice s'.q3 s'.n3 s'.c3), (.slice s'.q4 s'.n4 s'.c4), (.slice (some ⟨gA, 0, none⟩) nA nA), .slice none 0 0, .slice none 0 0, .slice none 0 0, .int .i64 0, .bool false, .slice none 0 0] 38)) := row_on HO2.out hb3
  have HB3b : Hid (Below w.heap.size w v3) := bel_on (Nat.le_refl _) HB2.out hb3
  have HX3b : Hid (RwX v3 (w.heap.size + 3) s' X) := HX2.out.agree (agr_below _ hb3)
  have HA3b : Hid (RwI v3 (w.heap.size + 3) (some ⟨gA, 0, none⟩) A) := HA2.out.agree (agr_below _ hb3)
  have HP3b : Hid (OwnP v3 (w.heap.size + 3) (some ⟨gP, 0, none⟩) P) := hnew3.less (by omega)
  have kI3 := box12_cells HI3b.out
  have kO3 := box12_cells HO3b.out
  have HI3 : Hid ((v3.setCell ⟨w.heap.size + 1 + 1, 6, none⟩ ((.slice (some ⟨gP, 0, none⟩) nP nP))).heap[w.heap.size]? = some (.cells #[.slice s.q0 s.n0 s.c0, .slice s.q1 s.n1 s.c1, .slice s.q2 s.n2 s.c2, .slice s.q3 s.n3 s.c3, .slice s.q4 s.n4 s.c4, .slice qA nA cA, .slice qP nP cP, .slice qL nL cL, .slice qO nO cO, .int .i64 tu, .bool sp, .slice qE nE cE] 86)) := set_far (HI3b.out) (by omega)
  have HZ3 : Hid ((v3.setCell ⟨w.heap.size + 1 + 1, 6, none⟩ ((.slice (some ⟨gP, 0, none⟩) nP nP))).heap[w.heap.size + 1]? = some (.cells #[.slice none 0 0, .slice none 0 0, .slice none 0 0, .slice none 0 0, .slice none 0 0, .slice none 0 0, .slice none 0 0, .slice none 0 0, .slice none 0 0, .int .i64 0, .bool false, .slice none 0 0] 38)) := set_far (HZ3b.out) (by omega)
  have HO3 : Hid ((v3.setCell ⟨w.heap.size + 1 + 1, 6, none⟩ ((.slice (some ⟨gP, 0, none⟩) nP nP))).heap[w.heap.size + 1 + 1]? = some (.cells #[(.slice s'.q0 s'.n0 s'.c0), (.slice s'.q1 s'.n1 s'.c1), (.slice s'.q2 s'.n2 s'.c2), (.slice s'.q3 s'.n3 s'.c3), (.slice s'.q4 s'.n4 s'.c4), (.slice (some ⟨gA, 0, none⟩) nA nA), (.slice (some ⟨gP, 0, none⟩) nP nP), .slice none 0 0, .slice none 0 0, .int .i64 0, .bool false, .slice none 0 0] 38)) := set_row5 (HO3b.out) 6 _
  have HB3 : Hid (Below w.heap.size w (v3.setCell ⟨w.heap.size + 1 + 1, 6, none⟩ ((.slice (some ⟨gP, 0, none⟩) nP nP)))) := Below.setCell (HB3b.out) (show w.heap.size ≤ w.heap.size + 1 + 1 by omega) _
  have HX3 : Hid (RwX (v3.setCell ⟨w.heap.size + 1 + 1, 6, none⟩ ((.slice (some ⟨gP, 0, none⟩) nP nP))) (w.heap.size + 3) s' X) := (HX3b.out).agree (agr_set (by omega))
  have HA3 : Hid (RwI (v3.setCell ⟨w.heap.size + 1 + 1, 6, none⟩ ((.slice (some ⟨gP, 0, none⟩) nP nP))) (w.heap.size + 3) (some ⟨gA, 0, none⟩) A) := (HA3b.out).agree (agr_set (by omega))
  have HP3 : Hid (OwnP (v3.setCell ⟨w.heap.size + 1 + 1, 6, none⟩ ((.slice (some ⟨gP, 0, none⟩) nP nP))) (w.heap.size + 3) (some ⟨gP, 0, none⟩) P) := (HP3b.out).agree (agr_set (by omega))
  clear hb3 HI2 HZ2 HO2 HB2 HX2 HA2 HI3b HZ3b HO3b HB3b HX3b HA3b HP3b kI2 kO2 hnew3 hg3 hsz3
  go_upto_region 5 with fail
  obtain ⟨u5, hu5⟩ : ∃ x, x = (v3.setCell ⟨w.heap.size + 1 + 1, 6, none⟩ ((.slice (some ⟨gP, 0, none⟩) nP nP))) := ⟨_, rfl⟩
  rw [← hu5] at HI3 HZ3 HO3 HB3 HX3 HA3 HP3 ⊢
  clear hu5 kI3 kO3
  have kI3 := box12_cells HI3.out
  have kO3 := box12_cells HO3.out
  go_wp2_with fail
  refine (toLs qL L nL cL HNL.out bL HS.out.ls _ (HX.out.l.keep HB3.out (Nat.le_refl _))).mono ?_
  rintro e v4 ⟨rfl, hnew4, hb4⟩
  have hsz4 : w.heap.size + 3 ≤ u5.heap.size := by have := row_lt HO3.out; omega
  obtain ⟨gL, hg4⟩ : ∃ k, u5.heap.size = k := ⟨_, rfl⟩
  rw [hg4] at hnew4
  try rw [hg4]
  have HI4b : Hid (v4.heap[w.heap.size]? = some (.cells #[.slice s.q0 s.n0 s.c0, .slice s.q1 s.n1 s.c1, .slice s.q2 s.n2 s.c2, .slice s.q3 s.n3 s.c3, .slice s.q4 s.n4 s.c4, .slice qA nA cA, .slice qP nP cP, .slice qL nL cL, .slice qO nO cO, .int .i64 tu, .bool sp, .slice qE nE cE] 86)) := row_on HI3.out hb4
  have HZ4b : Hid (v4.heap[w.heap.size + 1]? = some (.cells #[.slice none 0 0, .slice none 0 0, .slice none 0 0, .slice none 0 0, .slice none 0 0, .slice none 0 0, .slice none 0 0, .slice none 0 0, .slice none 0 0, .int .i64 0, .bool false, .slice none 0 0] 38)) := row_on HZ3.out hb4
  have HO4b : Hid (v4.heap[w.heap.size + 1 + 1]? = some (.cells #[(.slice s'.q0 s'.n0 s'.c0), (.slice s'.q1 s'.n1 s'.c1), (.slice s'.q2 s'.n2 s'.c2), (.slice s'.q3 s'.n3 s'.c3), (.slice s'.q4 s'.n4 s'.c4), (.slice (some ⟨gA, 0, none⟩) nA nA), (.slice (some ⟨gP, 0, none⟩) nP nP), .slice none 0 0, .slice none 0 0, .int .i64 0, .bool false, .slice none 0 0] 38)) := row_on HO3.out hb4
  have HB4b : Hid (Below w.heap.size w v4) := bel_on (Nat.le_refl _) HB3.out hb4
  have HX4b : Hid (RwX v4 (w.heap.size + 3) s' X) := HX3.out.agree (agr_below _ hb4)
  have HA4b : Hid (RwI v4 (w.heap.size + 3) (some ⟨gA, 0, none⟩) A) := HA3.out.agree (agr_below _ hb4)
  have HP4b : Hid (OwnP v4 (w.heap.size + 3) (some ⟨gP, 0, none⟩) P) := HP3.out.agree (agr_below _ hb4)
  have HL4b : Hid (OwnL v4 (w.heap.size + 3) (some ⟨gL, 0, none⟩) L) := hnew4.less (by omega)
  have kI4 := box12_cells HI4b.out
  have kO4 := box12_cells HO4b.out
  have HI4 : Hid ((v4.setCell ⟨w.heap.size + 1 + 1, 7, none⟩ ((.slice (some ⟨gL, 0, none⟩) nL nL))).heap[w.heap.size]? = some (.cells #[.slice s.q0 s.n0 s.c0, .slice s.q1 s.n1 s.c1, .slice s.q2 s.n2 s.c2, .slice s.q3 s.n3 s.c3, .slice s.q4 s.n4 s.c4, .slice qA nA cA, .slice qP nP cP, .slice qL nL cL, .slice qO nO cO, .int .i64 tu, .bool sp, .slice qE nE cE] 86)) := set_far (HI4b.out) (by omega)
  have HZ4 : Hid ((v4.setCell ⟨w.heap.size + 1 + 1, 7, none⟩ ((.slice (some ⟨gL, 0, none⟩) nL nL))).heap[w.heap.size + 1]? = some (.cells #[.slice none 0 0, .slice none 0 0, .slice none 0 0, .slice none 0 0, .slice none 0 0, .slice none 0 0, .slice none 0 0, .slice none 0 0, .slice none 0 0, .int .i64 0, .bool false, .slice none 0 0] 38)) := set_far (HZ4b.out) (by omega)
  have HO4 : Hid ((v4.setCell ⟨w.heap.size + 1 + 1, 7, none⟩ ((.slice (some ⟨gL, 0, none⟩) nL nL))).heap[w.heap.size + 1 + 1]? = some (.cells #[(.slice s'.q0 s'.n0 s'.c0), (.slice s'.q1 s'.n1 s'.c1), (.slice s'.q2 s'.n2 s'.c2), (.slice s'.q3 s'.n3 s'.c3), (.slice s'.q4 s'.n4 s'.c4), (.slice (some ⟨gA, 0, none⟩) nA nA), (.slice (some ⟨gP, 0, none⟩) nP nP), (.slice (some ⟨gL, 0, none⟩) nL nL), .slice none 0 0, .int .i64 0, .bool false, .slice none 0 0] 38)) := set_row5 (HO4b.out) 7 _
  have HB4 : Hid (Below w.heap.size w (v4.setCell ⟨w.heap.size + 1 + 1, 7, none⟩ ((.slice (some ⟨gL, 0, none⟩) nL nL)))) := Below.setCell (HB4b.out) (show w.heap.size ≤ w.heap.size + 1 + 1 by omega) _
  have HX4 : Hid (RwX (v4.setCell ⟨w.heap.size + 1 + 1, 7, none⟩ ((.slice (some ⟨gL, 0, none⟩) nL nL))) (w.heap.size + 3) s' X) := (HX4b.out).agree (agr_set (by omega))
  have HA4 : Hid (RwI (v4.setCell ⟨w.heap.size + 1 + 1, 7, none⟩ ((.slice (some ⟨gL, 0, none⟩) nL nL))) (w.heap.size + 3) (some ⟨gA, 0, none⟩) A) := (HA4b.out).agree (agr_set (by omega))
  have HP4 : Hid (OwnP (v4.setCell ⟨w.heap.size + 1 + 1, 7, none⟩ ((.slice (some ⟨gL, 0, none⟩) nL nL))) (w.heap.size + 3) (some ⟨gP, 0, none⟩) P) := (HP4b.out).agree (agr_set (by omega))
  have HL4 : Hid (OwnL (v4.setCell ⟨w.heap.size + 1 + 1, 7, none⟩ ((.slice (some ⟨gL, 0, none⟩) nL nL))) (w.heap.size + 3) (some ⟨gL, 0, none⟩) L) := (HL4b.out).agree (agr_set (by omega))
  clear hb4 HI3 HZ3 HO3 HB3 HX3 HA3 HP3 HI4b HZ4b HO4b HB4b HX4b HA4b HP4b HL4b kI3 kO3 hnew4 hg4 hsz4
  go_upto_region 6 with fail
  obtain ⟨u6, hu6⟩ : ∃ x, x = (v4.setCell ⟨w.heap.size + 1 + 1, 7, none⟩ ((.slice (some ⟨gL, 0, none⟩) nL nL))) := ⟨_, rfl⟩
  rw [← hu6] at HI4 HZ4 HO4 HB4 HX4 HA4 HP4 HL4 ⊢
  clear hu6 kI4 kO4
  have kI4 := box12_cells HI4.out
  have kO4 := box12_cells HO4.out
  go_wp2_with fail
  refine (C.toI qO O nO cO HNO.out bO _ (HX.out.o.keep HB4.out (Nat.le_refl _))).mono ?_
  rintro e v5 ⟨rfl, hnew5, hb5⟩
  have hsz5 : w.heap.size + 3 ≤ u6.heap.size := by have := row_lt HO4.out; omega
  obtain ⟨gO, hg5⟩ : ∃ k, u6.heap.size = k := ⟨_, rfl⟩
  rw [hg5] at hnew5
  try rw [hg5]
  have HI5b : Hid (v5.heap[w.heap.size]? = some (.cells #[.slice s.q0 s.n0 s.c0, .slice s.q1 s.n1 s.c1, .slice s.q2 s.n2 s.c2, .slice s.q3 s.n3 s.c3, .slice s.q4 s.n4 s.c4, .slice qA nA cA, .slice qP nP cP, .slice qL nL cL, .slice qO nO cO, .int .i64 tu, .bool sp, .slice qE nE cE] 86)) := row_on HI4.out hb5
  have HZ5b : Hid (v5.heap[w.heap.size + 1]? = some (.cells #[.slice none 0 0, .slice none 0 0, .slice none 0 0, .slice none 0 0, .slice none 0 0, .slice none 0 0, .slice none 0 0, .slice none 0 0, .slice none 0 0, .int .i64 0, .bool false, .slice none 0 0] 38)) := row_on HZ4.out hb5
  have HO5b : Hid (v5.heap[w.heap.size + 1 + 1]? = some (.cells #[(.slice s'.q0 s'.n0 s'.c0), (.slice s'.q1 s'.n1 s'.c1), (.slice s'.q2 s'.n2 s'.c2), (.slice s'.q3 s'.n3 s'.c3), (.slice s'.q4 s'.n4 s'.c4), (.slice (some ⟨gA, 0, none⟩) nA nA), (.slice (some ⟨gP, 0, none⟩) nP nP), (.slice (some ⟨gL, 0, none⟩) nL nL), .slice none 0 0, .int .i64 0, .bool false, .slice none 0 0] 38)) := row_on HO4.out hb5
  have HB5b : Hid (Below w.heap.size w v5) := bel_on (Nat.le_refl _) HB4.out hb5
  have HX5b : Hid (RwX v5 (w.heap.size + 3) s' X) := HX4.out.agree (agr_below _ hb5)
  have HA5b : Hid (RwI v5 (w.heap.size + 3) (some ⟨gA, 0, none⟩) A) := HA4.out.agree (agr_below _ hb5)
  have HP5b : Hid (OwnP v5 (w.heap.size + 3) (some ⟨gP, 0, none⟩) P) := HP4.out.agree (agr_below _ hb5)
  have HL5b : Hid (OwnL v5 (w.heap.size + 3) (some ⟨gL, 0, none⟩) L) := HL4.out.agree (agr_below _ hb5)
  have HQ5b : Hid (RwI v5 (w.heap.size + 3) (some ⟨gO, 0, none⟩) O) := ⟨gO, rfl, by omega, hnew5⟩
  have kI5 := box12_cells HI5b.out
  have kO5 := box12_cells HO5b.out
  have HI5 : Hid ((v5.setCell ⟨w.heap.size + 1 + 1, 8, none⟩ ((.slice (some ⟨gO, 0, none⟩) nO nO))).heap[w.heap.size]? = some (.cells #[.slice s.q0 s.n0 s.c0, .slice s.q1 s.n1 s.c1, .slice s.q2 s.n2 s.c2, .slice s.q3 s.n3 s.c3, .slice s.q4 s.n4 s.c4, .slice qA nA cA, .slice qP nP cP, .slice qL nL cL, .slice qO nO cO, .int .i64 tu, .bool sp, .slice qE nE cE] 86)) := set_far (HI5b.out) (by omega)
  have HZ5 : Hid ((v5.setCell ⟨w.heap.size + 1 + 1, 8, none⟩ ((.slice (some ⟨gO, 0, none⟩) nO nO))).heap[w.heap.size + 1]? = some (.cells #[.slice none 0 0, .slice none 0 0, .slice none 0 0, .slice none 0 0, .slice none 0 0, .slice none 0 0, .slice none 0 0, .slice none 0 0, .slice none 0 0, .int .i64 0, .bool false, .slice none 0 0] 38)) := set_far (HZ5b.out) (by omega)
  have HO5 : Hid ((v5.setCell ⟨w.heap.size + 1 + 1, 8, none⟩ ((.slice (some ⟨gO, 0, none⟩) nO nO))).heap[w.heap.size + 1 + 1]? = some (.cells #[(.slice s'.q0 s'.n0 s'.c0), (.slice s'.q1 s'.n1 s'.c1), (.slice s'.q2 s'.n2 s'.c2), (.slice s'.q3 s'.n3 s'.c3), (.slice s'.q4 s'.n4 s'.c4), (.slice (some ⟨gA, 0, none⟩) nA nA), (.slice (some ⟨gP, 0, none⟩) nP nP), (.slice (some ⟨gL, 0, none⟩) nL nL), (.slice (some ⟨gO, 0, none⟩) nO nO), .int .i64 0, .bool false, .slice none 0 0] 38)) := set_row5 (HO5b.out) 8 _
  have HB5 : Hid (Below w.heap.size w (v5.setCell ⟨w.heap.size + 1 + 1, 8, none⟩ ((.slice (some ⟨gO, 0, none⟩) nO nO)))) := Below.setCell (HB5b.out) (show w.heap.size ≤ w.heap.size + 1 + 1 by omega) _
  have HX5 : Hid (RwX (v5.setCell ⟨w.heap.size + 1 + 1, 8, none⟩ ((.slice (some ⟨gO, 0, none⟩) nO nO))) (w.heap.size + 3) s' X) := (HX5b.out).agree (agr_set (by omega))
  have HA5 : Hid (RwI (v5.setCell ⟨w.heap.size + 1 + 1, 8, none⟩ ((.slice (some ⟨gO, 0, none⟩) nO nO))) (w.heap.size + 3) (some ⟨gA, 0, none⟩) A) := (HA5b.out).agree (agr_set (by omega))
  have HP5 : Hid (OwnP (v5.setCell ⟨w.heap.size + 1 + 1, 8, none⟩ ((.slice (some ⟨gO, 0, none⟩) nO nO))) (w.heap.size + 3) (some ⟨gP, 0, none⟩) P) := (HP5b.out).agree (agr_set (by omega))
  have HL5 : Hid (OwnL (v5.setCell ⟨w.heap.size + 1 + 1, 8, none⟩ ((.slice (some ⟨gO, 0, none⟩) nO nO))) (w.heap.size + 3) (some ⟨gL, 0, none⟩) L) := (HL5b.out).agree (agr_set (by omega))
  have HQ5 : Hid (RwI (v5.setCell ⟨w.heap.size + 1 + 1, 8, none⟩ ((.slice (some ⟨gO, 0, none⟩) nO nO))) (w.heap.size + 3) (some ⟨gO, 0, none⟩) O) := (HQ5b.out).agree (agr_set (by omega))
  clear hb5 HI4 HZ4 HO4 HB4 HX4 HA4 HP4 HL4 HI5b HZ5b HO5b HB5b HX5b HA5b HP5b HL5b HQ5b kI4 kO4 hnew5 hg5 hsz5
  go_upto_region 7 with fail
  obtain ⟨u7, hu7⟩ : ∃ x, x = (v5.setCell ⟨w.heap.size + 1 + 1, 8, none⟩ ((.slice (some ⟨gO, 0, none⟩) nO nO))) := ⟨_, rfl⟩
  rw [← hu7] at HI5 HZ5 HO5 HB5 HX5 HA5 HP5 HL5 HQ5 ⊢
  clear hu7 kI5 kO5
  have kI5 := box12_cells HI5.out
  have kO5 := box12_cells HO5.out
  have HI6 : Hid ((u7.setCell ⟨w.heap.size + 1 + 1, 9, none⟩ ((.int .i64 tu))).heap[w.heap.size]? = some (.cells #[.slice s.q0 s.n0 s.c0, .slice s.q1 s.n1 s.c1, .slice s.q2 s.n2 s.c2, .slice s.q3 s.n3 s.c3, .slice s.q4 s.n4 s.c4, .slice qA nA cA, .slice qP nP cP, .slice qL nL cL, .slice qO nO cO, .int .i64 tu, .bool sp, .slice qE nE cE] 86)) := set_far HI5.out (by omega)
  have HZ6 : Hid ((u7.setCell ⟨w.heap.size + 1 + 1, 9, none⟩ ((.int .i64 tu))).heap[w.heap.size + 1]? = some (.cells #[.slice none 0 0, .slice none 0 0, .slice none 0 0, .slice none 0 0, .slice none 0 0, .slice none 0 0, .slice none 0 0, .slice none 0 0, .slice none 0 0, .int .i64 0, .bool false, .slice none 0 0] 38)) := set_far HZ5.out (by omega)
  have HO6 : Hid ((u7.setCell ⟨w.heap.size + 1 + 1, 9, none⟩ ((.int .i64 tu))).heap[w.heap.size + 1 + 1]? = some (.cells #[(.slice s'.q0 s'.n0 s'.c0), (.slice s'.q1 s'.n1 s'.c1), (.slice s'.q2 s'.n2 s'.c2), (.slice s'.q3 s'.n3 s'.c3), (.slice s'.q4 s'.n4 s'.c4), (.slice (some ⟨gA, 0, none⟩) nA nA), (.slice (some ⟨gP, 0, none⟩) nP nP), (.slice (some ⟨gL, 0, none⟩) nL nL), (.slice (some ⟨gO, 0, none⟩) nO nO), (.int .i64 tu), .bool false, .slice none 0 0] 38)) := set_row5 HO5.out 9 _
  have HB6 : Hid (Below w.heap.size w (u7.setCell ⟨w.heap.size + 1 + 1, 9, none⟩ ((.int .i64 tu)))) := HB5.out.setCell (show w.heap.size ≤ w.heap.size + 1 + 1 by omega) _
  have HX6 : Hid (RwX (u7.setCell ⟨w.heap.size + 1 + 1, 9, none⟩ ((.int .i64 tu))) (w.heap.size + 3) s' X) := HX5.out.agree (agr_set (by omega))
  have HA6 : Hid (RwI (u7.setCell ⟨w.heap.size + 1 + 1, 9, none⟩ ((.int .i64 tu))) (w.heap.size + 3) (some ⟨gA, 0, none⟩) A) := HA5.out.agree (agr_set (by omega))
  have HP6 : Hid (OwnP (u7.setCell ⟨w.heap.size + 1 + 1, 9, none⟩ ((.int .i64 tu))) (w.heap.size + 3) (some ⟨gP, 0, none⟩) P) := HP5.out.agree (agr_set (by omega))
  have HL6 : Hid (OwnL (u7.setCell ⟨w.heap.size + 1 + 1, 9, none⟩ ((.int .i64 tu))) (w.heap.size + 3) (some ⟨gL, 0, none⟩) L) := HL5.out.agree (agr_set (by omega))
  have HQ6 : Hid (RwI (u7.setCell ⟨w.heap.size + 1 + 1, 9, none⟩ ((.int .i64 tu))) (w.heap.size + 3) (some ⟨gO, 0, none⟩) O) := HQ5.out.agree (agr_set (by omega))
  clear HI5 HZ5 HO5 HB5 HX5 HA5 HP5 HL5 HQ5
  have kI6 := kI5
  have kO6 := kO5
  clear kI5 kO5
  go_upto_region 8 with fail
  obtain ⟨u8, hu8⟩ : ∃ x, x = (u7.setCell ⟨w.heap.size + 1 + 1, 9, none⟩ ((.int .i64 tu))) := ⟨_, rfl⟩
  rw [← hu8] at HI6 HZ6 HO6 HB6 HX6 HA6 HP6 HL6 HQ6 ⊢
  clear hu8 kI6 kO6
  have kI6 := box12_cells HI6.out
  have kO6 := box12_cells HO6.out
  have HI7 : Hid ((u8.setCell ⟨w.heap.size + 1 + 1, 10, none⟩ ((.bool sp))).heap[w.heap.size]? = some (.cells #[.slice s.q0 s.n0 s.c0, .slice s.q1 s.n1 s.c1, .slice s.q2 s.n2 s.c2, .slice s.q3 s.n3 s.c3, .slice s.q4 s.n4 s.c4, .slice qA nA cA, .slice qP nP cP, .slice qL nL cL, .slice qO nO cO, .int .i64 tu, .bool sp, .slice qE nE cE] 86)) := set_far HI6.out (by omega)
  have HZ7 : Hid ((u8.setCell ⟨w.heap.size + 1 + 1, 10, none⟩ ((.bool sp))).heap[w.heap.size + 1]? = some (.cells #[.slice none 0 0, .slice none 0 0, .slice none 0 0, .slice none 0 0, .slice none 0 0, .slice none 0 0, .slice none 0 0, .slice none 0 0, .slice none 0 0, .int .i64 0, .bool false, .slice none 0 0] 38)) := set_far HZ6.out (by omega)
  have HO7 : Hid ((u8.setCell ⟨w.heap.size + 1 + 1, 10, none⟩ ((.bool sp))).heap[w.heap.size + 1 + 1]? = some (.cells #[(.slice s'.q0 s'.n0 s'.c0), (.slice s'.q1 s'.n1 s'.c1), (.slice s'.q2 s'.n2 s'.c2), (.slice s'.q3 s'.n3 s'.c3), (.slice s'.q4 s'.n4 s'.c4), (.slice (some ⟨gA, 0, none⟩) nA nA), (.slice (some ⟨gP, 0, none⟩) nP nP), (.slice (some ⟨gL, 0, none⟩) nL nL), (.slice (some ⟨gO, 0, none⟩) nO nO), (.int .i64 tu), (.bool sp), .slice none 0 0] 38)) := set_row5 HO6.out 10 _
  have HB7 : Hid (Below w.heap.size w (u8.setCell ⟨w.heap.size + 1 + 1, 10, none⟩ ((.bool sp)))) := HB6.out.setCell (show w.heap.size ≤ w.heap.size + 1 + 1 by omega) _
  have HX7 : Hid (RwX (u8.setCell ⟨w.heap.size + 1 + 1, 10, none⟩ ((.bool sp))) (w.heap.size + 3) s' X) := HX6.out.agree (agr_set (by omega))
  have HA7 : Hid (RwI (u8.setCell ⟨w.heap.size + 1 + 1, 10, none⟩ ((.bool sp))) (w.heap.size + 3) (some ⟨gA, 0, none⟩) A) := HA6.out.agree (agr_set (by omega))
  have HP7 : Hid (OwnP (u8.setCell ⟨w.heap.size + 1 + 1, 10, none⟩ ((.bool sp))) (w.heap.size + 3) (some ⟨gP, 0, none⟩) P) := HP6.out.agree (agr_set (by omega))
  have HL7 : Hid (OwnL (u8.setCell ⟨w.heap.size + 1 + 1, 10, none⟩ ((.bool sp))) (w.heap.size + 3) (some ⟨gL, 0, none⟩) L) := HL6.out.agree (agr_set (by omega))
  have HQ7 : Hid (RwI (u8.setCell ⟨w.heap.size + 1 + 1, 10, none⟩ ((.bool sp))) (w.heap.size + 3) (some ⟨gO, 0, none⟩) O) := HQ6.out.agree (agr_set (by omega))
  clear HI6 HZ6 HO6 HB6 HX6 HA6 HP6 HL6 HQ6
  have kI7 := kI6
  have kO7 := kO6
  clear kI6 kO6
  go_upto_region 9 with fail
  obtain ⟨u9, hu9⟩ : ∃ x, x = (u8.setCell ⟨w.heap.size + 1 + 1, 10, none⟩ ((.bool sp))) := ⟨_, rfl⟩
  rw [← hu9] at HI7 HZ7 HO7 HB7 HX7 HA7 HP7 HL7 HQ7 ⊢
  clear hu9 kI7 kO7
  have kI7 := box12_cells HI7.out
  have kO7 := box12_cells HO7.out
  go_wp2_with fail
  refine (toEs qE E nE cE HNE.out bE _ (HX.out.e.keep HB7.out (Nat.le_refl _))).mono ?_
  rintro e v8 ⟨rfl, hnew8, hb8⟩
  have hsz8 : w.heap.size + 3 ≤ u9.heap.size := by have := row_lt HO7.out; omega
  obtain ⟨gE, hg8⟩ : ∃ k, u9.heap.size = k := ⟨_, rfl⟩
  rw [hg8] at hnew8
  try rw [hg8]
  have HI8b : Hid (v8.heap[w.heap.size]? = some (.cells #[.slice s.q0 s.n0 s.c0, .slice s.q1 s.n1 s.c1, .slice s.q2 s.n2 s.c2, .slice s.q3 s.n3 s.c3, .slice s.q4 s.n4 s.c4, .slice qA nA cA, .slice qP nP cP, .slice qL nL cL, .slice qO nO cO, .int .i64 tu, .bool sp, .slice qE nE cE] 86)) := row_on HI7.out hb8
  have HZ8b : Hid (v8.heap[w.heap.size + 1]? = some (.cells #[.slice none 0 0, .slice none 0 0, .slice none 0 0, .slice none 0 0, .slice none 0 0, .slice none 0 0, .slice none 0 0, .slice none 0 0, .slice none 0 0, .int .i64 0, .bool false, .slice none 0 0] 38)) := row_on HZ7.out hb8
  have HO8b : Hid (v8.heap[w.heap.size + 1 + 1]? = some (.cells #[(.slice s'.q0 s'.n0 s'.c0), (.slice s'.q1 s'.n1 s'.c1), (.slice s'.q2 s'.n2 s'.c2), (.slice s'.q3 s'.n3 s'.c3), (.slice s'.q4 s'.n4 s'.c4), (.slice (some ⟨gA, 0, none⟩) nA nA), (.slice (some ⟨gP, 0, none⟩) nP nP), (.slice (some ⟨gL, 0, none⟩) nL nL), (.slice (some ⟨gO, 0, none⟩) nO nO), (.int .i64 tu), (.bool sp), .slice none 0 0] 38)) := row_on HO7.out hb8
  have HB8b : Hid (Below w.heap.size w v8) := bel_on (Nat.le_refl _) HB7.out hb8
  have HX8b : Hid (RwX v8 (w.heap.size + 3) s' X) := HX7.out.agree (agr_below _ hb8)
  have HA8b : Hid (RwI v8 (w.heap.size + 3) (some ⟨gA, 0, none⟩) A) := HA7.out.agree (agr_below _ hb8)
  have HP8b : Hid (OwnP v8 (w.heap.size + 3) (some ⟨gP, 0, none⟩) P) := HP7.out.agree (agr_below _ hb8)
  have HL8b : Hid (OwnL v8 (w.heap.size + 3) (some ⟨gL, 0, none⟩) L) := HL7.out.agree (agr_below _ hb8)
  have HQ8b : Hid (RwI v8 (w.heap.size + 3) (some ⟨gO, 0, none⟩) O) := HQ7.out.agree (agr_below _ hb8)
  have HE8b : Hid (RwE v8 (w.heap.size + 3) (some ⟨gE, 0, none⟩) E) := ⟨gE, rfl, by omega, hnew8⟩
  have kI8 := box12_cells HI8b.out
  have kO8 := box12_cells HO8b.out
  have HI8 : Hid ((v8.setCell ⟨w.heap.size + 1 + 1, 11, none⟩ ((.slice (some ⟨gE, 0, none⟩) nE nE))).heap[w.heap.size]? = some (.cells #[.slice s.q0 s.n0 s.c0, .slice s.q1 s.n1 s.c1, .slice s.q2 s.n2 s.c2, .slice s.q3 s.n3 s.c3, .slice s.q4 s.n4 s.c4, .slice qA nA cA, .slice qP nP cP, .slice qL nL cL, .slice qO nO cO, .int .i64 tu, .bool sp, .slice qE nE cE] 86)) := set_far (HI8b.out) (by omega)
  have HZ8 : Hid ((v8.setCell ⟨w.heap.size + 1 + 1, 11, none⟩ ((.slice (some ⟨gE, 0, none⟩) nE nE))).heap[w.heap.size + 1]? = some (.cells #[.slice none 0 0, .slice none 0 0, .slice none 0 0, .slice none 0 0, .slice none 0 0, .slice none 0 0, .slice none 0 0, .slice none 0 0, .slice none 0 0, .int .i64 0, .bool false, .slice none 0 0] 38)) := set_far (HZ8b.out) (by omega)
  have HO8 : Hid ((v8.setCell ⟨w.heap.size + 1 + 1, 11, none⟩ ((.slice (some ⟨gE, 0, none⟩) nE nE))).heap[w.heap.size + 1 + 1]? = some (.cells #[(.slice s'.q0 s'.n0 s'.c0), (.slice s'.q1 s'.n1 s'.c1), (.slice s'.q2 s'.n2 s'.c2), (.slice s'.q3 s'.n3 s'.c3), (.slice s'.q4 s'.n4 s'.c4), (.slice (some ⟨gA, 0, none⟩) nA nA), (.slice (some ⟨gP, 0, none⟩) nP nP), (.slice (some ⟨gL, 0, none⟩) nL nL), (.slice (some ⟨gO, 0, none⟩) nO nO), (.int .i64 tu), (.bool sp), (.slice (some ⟨gE, 0, none⟩) nE nE)] 38)) := set_row5 (HO8b.out) 11 _
  have HB8 : Hid (Below w.heap.size w (v8.setCell ⟨w.heap.size + 1 + 1, 11, none⟩ ((.slice (some ⟨gE, 0, none⟩) nE nE)))) := Below.setCell (HB8b.out) (show w.heap.size ≤ w.heap.size + 1 + 1 by omega) _
  have HX8 : Hid (RwX (v8.setCell ⟨w.heap.size + 1 + 1, 11, none⟩ ((.slice (some ⟨gE, 0, none⟩) nE nE))) (w.heap.size + 3) s' X) := (HX8b.out).agree (agr_set (by omega))
  have HA8 : Hid (RwI (v8.setCell ⟨w.heap.size + 1 + 1, 11, none⟩ ((.slice (some ⟨gE, 0, none⟩) nE nE))) (w.heap.size + 3) (some ⟨gA, 0, none⟩) A) := (HA8b.out).agree (agr_set (by omega))
  have HP8 : Hid (OwnP (v8.setCell ⟨w.heap.size + 1 + 1, 11, none⟩ ((.slice (some ⟨gE, 0, none⟩) nE nE))) (w.heap.size + 3) (some ⟨gP, 0, none⟩) P) := (HP8b.out).agree (agr_set (by omega))
  have HL8 : Hid (OwnL (v8.setCell ⟨w.heap.size + 1 + 1, 11, none⟩ ((.slice (some ⟨gE, 0, none⟩) nE nE))) (w.heap.size + 3) (some ⟨gL, 0, none⟩) L) := (HL8b.out).agree (agr_set (by omega))
  have HQ8 : Hid (RwI (v8.setCell ⟨w.heap.size + 1 + 1, 11, none⟩ ((.slice (some ⟨gE, 0, none⟩) nE nE))) (w.heap.size + 3) (some ⟨gO, 0, none⟩) O) := (HQ8b.out).agree (agr_set (by omega))
  have HE8 : Hid (RwE (v8.setCell ⟨w.heap.size + 1 + 1, 11, none⟩ ((.slice (some ⟨gE, 0, none⟩) nE nE))) (w.heap.size + 3) (some ⟨gE, 0, none⟩) E) := (HE8b.out).agree (agr_set (by omega))
  clear hb8 HI7 HZ7 HO7 HB7 HX7 HA7 HP7 HL7 HQ7 HI8b HZ8b HO8b HB8b HX8b HA8b HP8b HL8b HQ8b HE8b kI7 kO7 hnew8 hg8 hsz8
  go_upto_region 10 with fail
  obtain ⟨u10, hu10⟩ : ∃ x, x = (v8.setCell ⟨w.heap.size + 1 + 1, 11, none⟩ ((.slice (some ⟨gE, 0, none⟩) nE nE))) := ⟨_, rfl⟩
  rw [← hu10] at HI8 HZ8 HO8 HB8 HX8 HA8 HP8 HL8 HQ8 HE8 ⊢
  clear hu10 kI8 kO8
  have kI8 := box12_cells HI8.out
  have kO8 := box12_cells HO8.out
  clear kI8
  have z8 := box12_cells HZ8.out
  go_wp2
  refine bodyPost_ret (v := .agg #[(.slice s'.q0 s'.n0 s'.c0), (.slice s'.q1 s'.n1 s'.c1), (.slice s'.q2 s'.n2 s'.c2), (.slice s'.q3 s'.n3 s'.c3), (.slice s'.q4 s'.n4 s'.c4), (.slice (some ⟨gA, 0, none⟩) nA nA), (.slice (some ⟨gP, 0, none⟩) nP nP), (.slice (some ⟨gL, 0, none⟩) nL nL), (.slice (some ⟨gO, 0, none⟩) nO nO), (.int .i64 tu), (.bool sp), (.slice (some ⟨gE, 0, none⟩) nE nE)]) (by simp [results, Try.results24, go_sem, z8]) rfl ⟨⟨s', some ⟨gA, 0, none⟩, nA, some ⟨gP, 0, none⟩, nP, some ⟨gL, 0, none⟩, nL, some ⟨gO, 0, none⟩, nO, some ⟨gE, 0, none⟩, nE⟩, rfl, ?_, ?_⟩
  · have hK : OwnK u10 (w.heap.size + 3) ⟨s', some ⟨gA, 0, none⟩, nA, some ⟨gP, 0, none⟩, nP, some ⟨gL, 0, none⟩, nL, some ⟨gO, 0, none⟩, nO, some ⟨gE, 0, none⟩, nE⟩ ⟨X, A, P, L, O, tu, sp, E⟩ := ⟨HX8.out, HA8.out, HNA.out.symm, HP8.out, HNP.out.symm, HL8.out, HNL.out.symm, HQ8.out, HNO.out.symm, HE8.out, HNE.out.symm⟩
    exact (((((((((((((hK).agree (agr_set (by omega))).agree (agr_set (by omega))).agree (agr_set (by omega))).agree (agr_set (by omega))).agree (agr_set (by omega))).agree (agr_set (by omega))).agree (agr_set (by omega))).agree (agr_set (by omega))).agree (agr_set (by omega))).agree (agr_set (by omega))).agree (agr_set (by omega))).agree (agr_set (by omega))).less (by omega)
  · repeat (refine Below.setCell ?_ (show w.heap.size ≤ w.heap.size + 1 by omega) _)
    exact HB8.out
end Go.Proofs.Ytfdhcchakoldpaa
