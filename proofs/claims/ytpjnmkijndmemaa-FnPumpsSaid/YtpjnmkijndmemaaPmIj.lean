/-
  Take, Wants and Give of the program, over what the states' methods do.
-/
import Derived.Test.YtpjnmkijndmemaaPmIk
import Derived.Test.YtpjnmkijndmemaaPmS8
import Derived.Great.BuildSlice
import Derived.Deep.CutBlock
namespace Go.Proofs.Ytpjnmkijndmemaa
open Go.RowKit Go.PlainAid
set_option linter.unusedVariables false
set_option linter.unusedSimpArgs false

/-- a boxed pump and a boxed order behind what only grew -/
def KU (w w' : World) (o p : Obj) : Prop := w'.heap[w.heap.size]? = some o ∧ w'.heap[w.heap.size + 1]? = some p ∧ Below w.heap.size w w'
theorem KU.on {w w' w2 : World} {x0 x1 x2 x3 x4 x5 x6 x7 y0 y1 y2 y3 : Value} {T U : TypeId} (h : KU w w' (.cells #[x0, x1, x2, x3, x4, x5, x6, x7] T) (.cells #[y0, y1, y2, y3] U)) (hb : Below w'.heap.size w' w2) : KU w w2 (.cells #[x0, x1, x2, x3, x4, x5, x6, x7] T) (.cells #[y0, y1, y2, y3] U) := ⟨row_on h.1 hb, row_on h.2.1 hb, bel_on (Nat.le_refl _) h.2.2 hb⟩
theorem ku_conj {w w' : World} {x0 x1 x2 x3 x4 x5 x6 x7 y0 y1 y2 y3 : Value} {T U : TypeId} (h : KU w w' (.cells #[x0, x1, x2, x3, x4, x5, x6, x7] T) (.cells #[y0, y1, y2, y3] U)) :
    w'.cell? ⟨w.heap.size, 0, none⟩ = some x0 ∧ w'.cell? ⟨w.heap.size, 1, none⟩ = some x1 ∧ w'.cell? ⟨w.heap.size, 2, none⟩ = some x2 ∧ w'.cell? ⟨w.heap.size, 3, none⟩ = some x3 ∧ w'.cell? ⟨w.heap.size, 4, none⟩ = some x4 ∧ w'.cell? ⟨w.heap.size, 5, none⟩ = some x5 ∧ w'.cell? ⟨w.heap.size, 6, none⟩ = some x6 ∧ w'.cell? ⟨w.heap.size, 7, none⟩ = some x7 ∧ w'.cell? ⟨w.heap.size + 1, 0, none⟩ = some y0 ∧ w'.cell? ⟨w.heap.size + 1, 1, none⟩ = some y1 ∧ w'.cell? ⟨w.heap.size + 1, 2, none⟩ = some y2 ∧ w'.cell? ⟨w.heap.size + 1, 3, none⟩ = some y3 ∧ KU w w' (.cells #[x0, x1, x2, x3, x4, x5, x6, x7] T) (.cells #[y0, y1, y2, y3] U) := by
  obtain ⟨⟨a0, a1, a2, a3, a4, a5, a6, a7⟩, _⟩ := box8_cells h.1
  obtain ⟨⟨b0, b1, b2, b3⟩, _⟩ := box4_cells h.2.1
  exact ⟨a0, a1, a2, a3, a4, a5, a6, a7, b0, b1, b2, b3, h⟩
/-- a state's three functions behind what only grew -/
def KV (w w' : World) (Q : Nat) (x y z : Value) (T : TypeId) : Prop := w'.heap[Q]? = some (.cells #[x, y, z] T) ∧ Below w.heap.size w w'
theorem KV.on {w w' w2 : World} {Q : Nat} {x y z : Value} {T : TypeId} (h : KV w w' Q x y z T) (hb : Below w'.heap.size w' w2) : KV w w2 Q x y z T := ⟨rat_on h.1 hb, bel_on (Nat.le_refl _) h.2 hb⟩
theorem kv_conj {w w' : World} {Q : Nat} {x y z : Value} {T : TypeId} (h : KV w w' Q x y z T) : w'.cell? ⟨Q, 0, none⟩ = some x ∧ w'.cell? ⟨Q, 1, none⟩ = some y ∧ w'.cell? ⟨Q, 2, none⟩ = some z ∧ KV w w' Q x y z T := by
  refine ⟨?_, ?_, ?_, h⟩ <;> simp [World.cell?, h.1]
theorem fld0 (x y z : Value) (w : World) : (Instr.field 61 (.agg #[x, y, z]) 0).run Try.prog w = .ok x w := by kernel_rfl
theorem fld1 (x y z : Value) (w : World) : (Instr.field 61 (.agg #[x, y, z]) 1).run Try.prog w = .ok y w := by kernel_rfl
set_option maxRecDepth 100000 in
set_option maxHeartbeats 4000000 in
theorem tkI_p (s n d r l b g k K N D V : Int) (KP : Hid (∀ w, Calls Try.prog 21 #[.agg #[.int .i64 s, .int .i64 n, .int .i64 d, .int .i64 r, .int .i64 l, .int .i64 b, .int .i64 g, .int .i64 k]] w fun e w' => e = .returned (.bool false) ∧ Below w.heap.size w w')) (w : World) : Calls Try.prog 16 #[.agg #[.int .i64 s, .int .i64 n, .int .i64 d, .int .i64 r, .int .i64 l, .int .i64 b, .int .i64 g, .int .i64 k], .agg #[.int .i64 K, .int .i64 N, .int .i64 D, .int .i64 V]] w fun e w' => e = .returned (.tuple #[.agg #[.int .i64 s, .int .i64 n, .int .i64 d, .int .i64 r, .int .i64 l, .int .i64 b, .int .i64 g, .int .i64 k], .bool false]) ∧ Below w.heap.size w w' := by
  have HB0 : Hid (Below w.heap.size w (((w.alloc (.cells #[.int .i64 s, .int .i64 n, .int .i64 d, .int .i64 r, .int .i64 l, .int .i64 b, .int .i64 g, .int .i64 k] 27)).alloc (.cells #[.int .i64 K, .int .i64 N, .int .i64 D, .int .i64 V] 30)).alloc (.cells #[.int .i64 0, .int .i64 0, .int .i64 0, .int .i64 0, .int .i64 0, .int .i64 0, .int .i64 0, .int .i64 0] 27))) := bel_on (Nat.le_refl _) (bel_on (Nat.le_refl _) (alP _ _) (alP _ _)) (alP _ _)
  have HP0 : Hid ((((w.alloc (.cells #[.int .i64 s, .int .i64 n, .int .i64 d, .int .i64 r, .int .i64 l, .int .i64 b, .int .i64 g, .int .i64 k] 27)).alloc (.cells #[.int .i64 K, .int .i64 N, .int .i64 D, .int .i64 V] 30)).alloc (.cells #[.int .i64 0, .int .i64 0, .int .i64 0, .int .i64 0, .int .i64 0, .int .i64 0, .int .i64 0, .int .i64 0] 27)).heap[w.heap.size]? = some (.cells #[.int .i64 s, .int .i64 n, .int .i64 d, .int .i64 r, .int .i64 l, .int .i64 b, .int .i64 g, .int .i64 k] 27)) := row_on (row_on (heap_new w _) (alP _ _)) (alP _ _)
  have HO0 : Hid ((((w.alloc (.cells #[.int .i64 s, .int .i64 n, .int .i64 d, .int .i64 r, .int .i64 l, .int .i64 b, .int .i64 g, .int .i64 k] 27)).alloc (.cells #[.int .i64 K, .int .i64 N, .int .i64 D, .int .i64 V] 30)).alloc (.cells #[.int .i64 0, .int .i64 0, .int .i64 0, .int .i64 0, .int .i64 0, .int .i64 0, .int .i64 0, .int .i64 0] 27)).heap[w.heap.size + 1]? = some (.cells #[.int .i64 K, .int .i64 N, .int .i64 D, .int .i64 V] 30)) := row_on (al_at (w.alloc (.cells #[.int .i64 s, .int .i64 n, .int .i64 d, .int .i64 r, .int .i64 l, .int .i64 b, .int .i64 g, .int .i64 k] 27)) _ (by simp)) (alP _ _)
  have HZ0 : Hid ((((w.alloc (.cells #[.int .i64 s, .int .i64 n, .int .i64 d, .int .i64 r, .int .i64 l, .int .i64 b, .int .i64 g, .int .i64 k] 27)).alloc (.cells #[.int .i64 K, .int .i64 N, .int .i64 D, .int .i64 V] 30)).alloc (.cells #[.int .i64 0, .int .i64 0, .int .i64 0, .int .i64 0, .int .i64 0, .int .i64 0, .int .i64 0, .int .i64 0] 27)).heap[w.heap.size + 1 + 1]? = some (.cells #[.int .i64 0, .int .i64 0, .int .i64 0, .int .i64 0, .int .i64 0, .int .i64 0, .int .i64 0, .int .i64 0] 27)) := al_at ((w.alloc (.cells #[.int .i64 s, .int .i64 n, .int .i64 d, .int .i64 r, .int .i64 l, .int .i64 b, .int .i64 g, .int .i64 k] 27)).alloc (.cells #[.int .i64 K, .int .i64 N, .int .i64 D, .int .i64 V] 30)) _ (by simp)
  have p0 := box8_cells HP0.out
  have o0 := box4_cells HO0.out
  go_enter Try.func16, Try.ntmps16
  go_wp2_with fail
  refine Calls.mono (KP.out _) ?_
  rintro e w1 ⟨rfl, hb⟩
  have HB1 : Hid (Below w.heap.size w w1) := bel_on (Nat.le_refl _) HB0.out hb
  have HP1 : Hid (w1.heap[w.heap.size]? = some (.cells #[.int .i64 s, .int .i64 n, .int .i64 d, .int .i64 r, .int .i64 l, .int .i64 b, .int .i64 g, .int .i64 k] 27)) := row_on HP0.out hb
  have HO1 : Hid (w1.heap[w.heap.size + 1]? = some (.cells #[.int .i64 K, .int .i64 N, .int .i64 D, .int .i64 V] 30)) := row_on HO0.out hb
  have HZ1 : Hid (w1.heap[w.heap.size + 1 + 1]? = some (.cells #[.int .i64 0, .int .i64 0, .int .i64 0, .int .i64 0, .int .i64 0, .int .i64 0, .int .i64 0, .int .i64 0] 27)) := row_on HZ0.out hb
  have p1 := box8_cells HP1.out
  have o1 := box4_cells HO1.out
  clear hb HB0 HP0 HO0 HZ0 p0 o0
  go_upto_region 2 with fail
  go_wp2_with (refine listStoreP rfl rfl _ _ _ rfl rfl (w.heap.size + 1 + 1) (s) (n) (d) (r) (l) (b) (g) (k) rfl rfl HZ1.out ?_)
  intro w99 hr9 ho9 hs9 hB9
  have HF : Hid (Below w.heap.size w w99) := hB9 _ _ (le2 _) HB1.out
  obtain ⟨⟨q0, q1, q2, q3, q4, q5, q6, q7⟩, _⟩ := box8_cells hr9
  clear ho9 hs9 hB9 hr9
  go_wp2
  refine bodyPost_ret (v := .tuple #[.agg #[.int .i64 s, .int .i64 n, .int .i64 d, .int .i64 r, .int .i64 l, .int .i64 b, .int .i64 g, .int .i64 k], .bool false]) (by simp only [results, Try.results16]; simp [go_sem, q0, q1, q2, q3, q4, q5, q6, q7]) rfl ⟨rfl, HF.out⟩
set_option maxRecDepth 100000 in
set_option maxHeartbeats 4000000 in
theorem tkI_o (s n d r l b g k K N D V : Int) (KP : Hid (∀ w, Calls Try.prog 21 #[.agg #[.int .i64 s, .int .i64 n, .int .i64 d, .int .i64 r, .int .i64 l, .int .i64 b, .int .i64 g, .int .i64 k]] w fun e w' => e = .returned (.bool true) ∧ Below w.heap.size w w')) (KO : Hid (∀ w, Calls Try.prog 34 #[.agg #[.int .i64 K, .int .i64 N, .int .i64 D, .int .i64 V]] w fun e w' => e = .returned (.bool false) ∧ Below w.heap.size w w')) (w : World) : Calls Try.prog 16 #[.agg #[.int .i64 s, .int .i64 n, .int .i64 d, .int .i64 r, .int .i64 l, .int .i64 b, .int .i64 g, .int .i64 k], .agg #[.int .i64 K, .int .i64 N, .int .i64 D, .int .i64 V]] w fun e w' => e = .returned (.tuple #[.agg #[.int .i64 s, .int .i64 n, .int .i64 d, .int .i64 r, .int .i64 l, .int .i64 b, .int .i64 g, .int .i64 k], .bool false]) ∧ Below w.heap.size w w' := by
  have HB0 : Hid (Below w.heap.size w (((w.alloc (.cells #[.int .i64 s, .int .i64 n, .int .i64 d, .int .i64 r, .int .i64 l, .int .i64 b, .int .i64 g, .int .i64 k] 27)).alloc (.cells #[.int .i64 K, .int .i64 N, .int .i64 D, .int .i64 V] 30)).alloc (.cells #[.int .i64 0, .int .i64 0, .int .i64 0, .int .i64 0, .int .i64 0, .int .i64 0, .int .i64 0, .int .i64 0] 27))) := bel_on (Nat.le_refl _) (bel_on (Nat.le_refl _) (alP _ _) (alP _ _)) (alP _ _)
  have HP0 : Hid ((((w.alloc (.cells #[.int .i64 s, .int .i64 n, .int .i64 d, .int .i64 r, .int .i64 l, .int .i64 b, .int .i64 g, .int .i64 k] 27)).alloc (.cells #[.int .i64 K, .int .i64 N, .int .i64 D, .int .i64 V] 30)).alloc (.cells #[.int .i64 0, .int .i64 0, .int .i64 0, .int .i64 0, .int .i64 0, .int .i64 0, .int .i64 0, .int .i64 0] 27)).heap[w.heap.size]? = some (.cells #[.int .i64 s, .int .i64 n, .int .i64 d, .int .i64 r, .int .i64 l, .int .i64 b, .int .i64 g, .int .i64 k] 27)) := row_on (row_on (heap_new w _) (alP _ _)) (alP _ _)
  have HO0 : Hid ((((w.alloc (.cells #[.int .i64 s, .int .i64 n, .int .i64 d, .int .i64 r, .int .i64 l, .int .i64 b, .int .i64 g, .int .i64 k] 27)).alloc (.cells #[.int .i64 K, .int .i64 N, .int .i64 D, .int .i64 V] 30)).alloc (.cells #[.int .i64 0, .int .i64 0, .int .i64 0, .int .i64 0, .int .i64 0, .int .i64 0, .int .i64 0, .int .i64 0] 27)).heap[w.heap.size + 1]? = some (.cells #[.int .i64 K, .int .i64 N, .int .i64 D, .int .i64 V] 30)) := row_on (al_at (w.alloc (.cells #[.int .i64 s, .int .i64 n, .int .i64 d, .int .i64 r, .int .i64 l, .int .i64 b, .int .i64 g, .int .i64 k] 27)) _ (by simp)) (alP _ _)
  have HZ0 : Hid ((((w.alloc (.cells #[.int .i64 s, .int .i64 n, .int .i64 d, .int .i64 r, .int .i64 l, .int .i64 b, .int .i64 g, .int .i64 k] 27)).alloc (.cells #[.int .i64 K, .int .i64 N, .int .i64 D, .int .i64 V] 30)).alloc (.cells #[.int .i64 0, .int .i64 0, .int .i64 0, .int .i64 0, .int .i64 0, .int .i64 0, .int .i64 0, .int .i64 0] 27)).heap[w.heap.size + 1 + 1]? = some (.cells #[.int .i64 0, .int .i64 0, .int .i64 0, .int .i64 0, .int .i64 0, .int .i64 0, .int .i64 0, .int .i64 0] 27)) := al_at ((w.alloc (.cells #[.int .i64 s, .int .i64 n, .int .i64 d, .int .i64 r, .int .i64 l, .int .i64 b, .int .i64 g, .int .i64 k] 27)).alloc (.cells #[.int .i64 K, .int .i64 N, .int .i64 D, .int .i64 V] 30)) _ (by simp)
  have p0 := box8_cells HP0.out
  have o0 := box4_cells HO0.out
  go_enter Try.func16, Try.ntmps16
  go_wp2_with fail
  refine Calls.mono (KP.out _) ?_
  rintro e w1 ⟨rfl, hb⟩
  have HB1 : Hid (Below w.heap.size w w1) := bel_on (Nat.le_refl _) HB0.out hb
  have HP1 : Hid (w1.heap[w.heap.size]? = some (.cells #[.int .i64 s, .int .i64 n, .int .i64 d, .int .i64 r, .int .i64 l, .int .i64 b, .int .i64 g, .int .i64 k] 27)) := row_on HP0.out hb
  have HO1 : Hid (w1.heap[w.heap.size + 1]? = some (.cells #[.int .i64 K, .int .i64 N, .int .i64 D, .int .i64 V] 30)) := row_on HO0.out hb
  have HZ1 : Hid (w1.heap[w.heap.size + 1 + 1]? = some (.cells #[.int .i64 0, .int .i64 0, .int .i64 0, .int .i64 0, .int .i64 0, .int .i64 0, .int .i64 0, .int .i64 0] 27)) := row_on HZ0.out hb
  have p1 := box8_cells HP1.out
  have o1 := box4_cells HO1.out
  clear hb HB0 HP0 HO0 HZ0 p0 o0
  go_wp2_with fail
  refine Calls.mono (KO.out _) ?_
  rintro e w2 ⟨rfl, hb⟩
  have HB2 : Hid (Below w.heap.size w w2) := bel_on (Nat.le_refl _) HB1.out hb
  have HP2 : Hid (w2.heap[w.heap.size]? = some (.cells #[.int .i64 s, .int .i64 n, .int .i64 d, .int .i64 r, .int .i64 l, .int .i64 b, .int .i64 g, .int .i64 k] 27)) := row_on HP1.out hb
  have HO2 : Hid (w2.heap[w.heap.size + 1]? = some (.cells #[.int .i64 K, .int .i64 N, .int .i64 D, .int .i64 V] 30)) := row_on HO1.out hb
  have HZ2 : Hid (w2.heap[w.heap.size + 1 + 1]? = some (.cells #[.int .i64 0, .int .i64 0, .int .i64 0, .int .i64 0, .int .i64 0, .int .i64 0, .int .i64 0, .int .i64 0] 27)) := row_on HZ1.out hb
  have p2 := box8_cells HP2.out
  have o2 := box4_cells HO2.out
  clear hb HB1 HP1 HO1 HZ1 p1 o1
  go_upto_region 2 with fail
  go_wp2_with (refine listStoreP rfl rfl _ _ _ rfl rfl (w.heap.size + 1 + 1) (s) (n) (d) (r) (l) (b) (g) (k) rfl rfl HZ2.out ?_)
  intro w99 hr9 ho9 hs9 hB9
  have HF : Hid (Below w.heap.size w w99) := hB9 _ _ (le2 _) HB2.out
  obtain ⟨⟨q0, q1, q2, q3, q4, q5, q6, q7⟩, _⟩ := box8_cells hr9
  clear ho9 hs9 hB9 hr9
  go_wp2
  refine bodyPost_ret (v := .tuple #[.agg #[.int .i64 s, .int .i64 n, .int .i64 d, .int .i64 r, .int .i64 l, .int .i64 b, .int .i64 g, .int .i64 k], .bool false]) (by simp only [results, Try.results16]; simp [go_sem, q0, q1, q2, q3, q4, q5, q6, q7]) rfl ⟨rfl, HF.out⟩
set_option maxRecDepth 100000 in
set_option maxHeartbeats 4000000 in
theorem tkI_0 (n d r l b g k K N D V z0 z1 z2 z3 z4 z5 z6 z7 : Int) {y : Bool} (KP : Hid (∀ w, Calls Try.prog 21 #[.agg #[.int .i64 0, .int .i64 n, .int .i64 d, .int .i64 r, .int .i64 l, .int .i64 b, .int .i64 g, .int .i64 k]] w fun e w' => e = .returned (.bool true) ∧ Below w.heap.size w w')) (KO : Hid (∀ w, Calls Try.prog 34 #[.agg #[.int .i64 K, .int .i64 N, .int .i64 D, .int .i64 V]] w fun e w' => e = .returned (.bool true) ∧ Below w.heap.size w w')) (KT : Hid (∀ w, Calls Try.prog 64 #[.agg #[.int .i64 0, .int .i64 n, .int .i64 d, .int .i64 r, .int .i64 l, .int .i64 b, .int .i64 g, .int .i64 k], .agg #[.int .i64 K, .int .i64 N, .int .i64 D, .int .i64 V]] w fun e w' => e = .returned (.tuple #[.agg #[.int .i64 z0, .int .i64 z1, .int .i64 z2, .int .i64 z3, .int .i64 z4, .int .i64 z5, .int .i64 z6, .int .i64 z7], .bool y]) ∧ Below w.heap.size w w')) (w : World) : Calls Try.prog 16 #[.agg #[.int .i64 0, .int .i64 n, .int .i64 d, .int .i64 r, .int .i64 l, .int .i64 b, .int .i64 g, .int .i64 k], .agg #[.int .i64 K, .int .i64 N, .int .i64 D, .int .i64 V]] w fun e w' => e = .returned (.tuple #[.agg #[.int .i64 z0, .int .i64 z1, .int .i64 z2, .int .i64 z3, .int .i64 z4, .int .i64 z5, .int .i64 z6, .int .i64 z7], .bool y]) ∧ Below w.heap.size w w' := by
  have HB0 : Hid (Below w.heap.size w (((w.alloc (.cells #[.int .i64 0, .int .i64 n, .int .i64 d, .int .i64 r, .int .i64 l, .int .i64 b, .int .i64 g, .int .i64 k] 27)).alloc (.cells #[.int .i64 K, .int .i64 N, .int .i64 D, .int .i64 V] 30)).alloc (.cells #[.int .i64 0, .int .i64 0, .int .i64 0, .int .i64 0, .int .i64 0, .int .i64 0, .int .i64 0, .int .i64 0] 27))) := bel_on (Nat.le_refl _) (bel_on (Nat.le_refl _) (alP _ _) (alP _ _)) (alP _ _)
  have HP0 : Hid ((((w.alloc (.cells #[.int .i64 0, .int .i64 n, .int .i64 d, .int .i64 r, .int .i64 l, .int .i64 b, .int .i64 g, .int .i64 k] 27)).alloc (.cells #[.int .i64 K, .int .i64 N, .int .i64 D, .int .i64 V] 30)).alloc (.cells #[.int .i64 0, .int .i64 0, .int .i64 0, .int .i64 0, .int .i64 0, .int .i64 0, .int .i64 0, .int .i64 0] 27)).heap[w.heap.size]? = some (.cells #[.int .i64 0, .int .i64 n, .int .i64 d, .int .i64 r, .int .i64 l, .int .i64 b, .int .i64 g, .int .i64 k] 27)) := row_on (row_on (heap_new w _) (alP _ _)) (alP _ _)
  have HO0 : Hid ((((w.alloc (.cells #[.int .i64 0, .int .i64 n, .int .i64 d, .int .i64 r, .int .i64 l, .int .i64 b, .int .i64 g, .int .i64 k] 27)).alloc (.cells #[.int .i64 K, .int .i64 N, .int .i64 D, .int .i64 V] 30)).alloc (.cells #[.int .i64 0, .int .i64 0, .int .i64 0, .int .i64 0, .int .i64 0, .int .i64 0, .int .i64 0, .int .i64 0] 27)).heap[w.heap.size + 1]? = some (.cells #[.int .i64 K, .int .i64 N, .int .i64 D, .int .i64 V] 30)) := row_on (al_at (w.alloc (.cells #[.int .i64 0, .int .i64 n, .int .i64 d, .int .i64 r, .int .i64 l, .int .i64 b, .int .i64 g, .int .i64 k] 27)) _ (by simp)) (alP _ _)
  have HZ0 : Hid ((((w.alloc (.cells #[.int .i64 0, .int .i64 n, .int .i64 d, .int .i64 r, .int .i64 l, .int .i64 b, .int .i64 g, .int .i64 k] 27)).alloc (.cells #[.int .i64 K, .int .i64 N, .int .i64 D, .int .i64 V] 30)).alloc (.cells #[.int .i64 0, .int .i64 0, .int .i64 0, .int .i64 0, .int .i64 0, .int .i64 0, .int .i64 0, .int .i64 0] 27)).heap[w.heap.size + 1 + 1]? = some (.cells #[.int .i64 0, .int .i64 0, .int .i64 0, .int .i64 0, .int .i64 0, .int .i64 0, .int .i64 0, .int .i64 0] 27)) := al_at ((w.alloc (.cells #[.int .i64 0, .int .i64 n, .int .i64 d, .int .i64 r, .int .i64 l, .int .i64 b, .int .i64 g, .int .i64 k] 27)).alloc (.cells #[.int .i64 K, .int .i64 N, .int .i64 D, .int .i64 V] 30)) _ (by simp)
  have p0 := box8_cells HP0.out
  have o0 := box4_cells HO0.out
  go_enter Try.func16, Try.ntmps16
  go_wp2_with fail
  refine Calls.mono (KP.out _) ?_
  rintro e w1 ⟨rfl, hb⟩
  have HB1 : Hid (Below w.heap.size w w1) := bel_on (Nat.le_refl _) HB0.out hb
  have HP1 : Hid (w1.heap[w.heap.size]? = some (.cells #[.int .i64 0, .int .i64 n, .int .i64 d, .int .i64 r, .int .i64 l, .int .i64 b, .int .i64 g, .int .i64 k] 27)) := row_on HP0.out hb
  have HO1 : Hid (w1.heap[w.heap.size + 1]? = some (.cells #[.int .i64 K, .int .i64 N, .int .i64 D, .int .i64 V] 30)) := row_on HO0.out hb
  have HZ1 : Hid (w1.heap[w.heap.size + 1 + 1]? = some (.cells #[.int .i64 0, .int .i64 0, .int .i64 0, .int .i64 0, .int .i64 0, .int .i64 0, .int .i64 0, .int .i64 0] 27)) := row_on HZ0.out hb
  have p1 := box8_cells HP1.out
  have o1 := box4_cells HO1.out
  clear hb HB0 HP0 HO0 HZ0 p0 o0
  go_wp2_with fail
  refine Calls.mono (KO.out _) ?_
  rintro e w2 ⟨rfl, hb⟩
  have HB2 : Hid (Below w.heap.size w w2) := bel_on (Nat.le_refl _) HB1.out hb
  have HP2 : Hid (w2.heap[w.heap.size]? = some (.cells #[.int .i64 0, .int .i64 n, .int .i64 d, .int .i64 r, .int .i64 l, .int .i64 b, .int .i64 g, .int .i64 k] 27)) := row_on HP1.out hb
  have HO2 : Hid (w2.heap[w.heap.size + 1]? = some (.cells #[.int .i64 K, .int .i64 N, .int .i64 D, .int .i64 V] 30)) := row_on HO1.out hb
  have HZ2 : Hid (w2.heap[w.heap.size + 1 + 1]? = some (.cells #[.int .i64 0, .int .i64 0, .int .i64 0, .int .i64 0, .int .i64 0, .int .i64 0, .int .i64 0, .int .i64 0] 27)) := row_on HZ1.out hb
  have p2 := box8_cells HP2.out
  have o2 := box4_cells HO2.out
  clear hb HB1 HP1 HO1 HZ1 p1 o1
  have HK0 : Hid (KU w w2.drew (.cells #[.int .i64 0, .int .i64 n, .int .i64 d, .int .i64 r, .int .i64 l, .int .i64 b, .int .i64 g, .int .i64 k] 27) (.cells #[.int .i64 K, .int .i64 N, .int .i64 D, .int .i64 V] 30)) := ⟨HP2.out, HO2.out, HB2.out.drew⟩
  have HZ0 : Hid (w2.drew.heap[w.heap.size + 1 + 1]? = some (.cells #[.int .i64 0, .int .i64 0, .int .i64 0, .int .i64 0, .int .i64 0, .int .i64 0, .int .i64 0, .int .i64 0] 27)) := HZ2.out
  go_wp2_with fail
  clear p2 o2 HB2 HP2 HO2 HZ2
  refine wp_region_held_drew (S := fun w' => w'.cell? ⟨w.heap.size, 0, none⟩ = some (.int .i64 0) ∧ w'.cell? ⟨w.heap.size, 1, none⟩ = some (.int .i64 n) ∧ w'.cell? ⟨w.heap.size, 2, none⟩ = some (.int .i64 d) ∧ w'.cell? ⟨w.heap.size, 3, none⟩ = some (.int .i64 r) ∧ w'.cell? ⟨w.heap.size, 4, none⟩ = some (.int .i64 l) ∧ w'.cell? ⟨w.heap.size, 5, none⟩ = some (.int .i64 b) ∧ w'.cell? ⟨w.heap.size, 6, none⟩ = some (.int .i64 g) ∧ w'.cell? ⟨w.heap.size, 7, none⟩ = some (.int .i64 k) ∧ w'.cell? ⟨w.heap.size + 1, 0, none⟩ = some (.int .i64 K) ∧ w'.cell? ⟨w.heap.size + 1, 1, none⟩ = some (.int .i64 N) ∧ w'.cell? ⟨w.heap.size + 1, 2, none⟩ = some (.int .i64 D) ∧ w'.cell? ⟨w.heap.size + 1, 3, none⟩ = some (.int .i64 V) ∧ KU w w' (.cells #[.int .i64 0, .int .i64 n, .int .i64 d, .int .i64 r, .int .i64 l, .int .i64 b, .int .i64 g, .int .i64 k] 27) (.cells #[.int .i64 K, .int .i64 N, .int .i64 D, .int .i64 V] 30)) (by kernel_rfl) (ku_conj HK0.out) (fun hHeld => ?_)
  refine wpAnyH_take (i := 0) (v := ?_) rfl (by kernel_rfl) (by kernel_rfl) (by kernel_rfl) (fun _ _ _ h => h) (Or.inl ⟨by rfl, ?_⟩) (by assumption) ?_
  rotate_left
  · intro w_ hSw; (try dsimp only at hSw); go_simp <;> with_reducible rfl
  try simp only [Act.put, List.setIfInBounds_toArray, List.set_cons_zero, List.set_cons_succ, List.getElem_toArray, List.getElem_cons_zero, List.getElem_cons_succ]
  refine wpAnyH_take (i := 3) (v := ?_) rfl (by kernel_rfl) (by kernel_rfl) (by kernel_rfl) (fun _ _ _ h => h) (Or.inl ⟨by rfl, ?_⟩) (by assumption) ?_
  rotate_left
  · intro w_ hSw; (try dsimp only at hSw); go_simp <;> with_reducible rfl
  try simp only [Act.put, List.setIfInBounds_toArray, List.set_cons_zero, List.set_cons_succ, List.getElem_toArray, List.getElem_cons_zero, List.getElem_cons_succ]
  have fl : ∀ w, (Instr.field 61 (.agg #[.func (.func 64) #[.agg #[.int .i64 0, .int .i64 n, .int .i64 d, .int .i64 r, .int .i64 l, .int .i64 b, .int .i64 g, .int .i64 k]] #[], .func (.func 62) #[.agg #[.int .i64 0, .int .i64 n, .int .i64 d, .int .i64 r, .int .i64 l, .int .i64 b, .int .i64 g, .int .i64 k]] #[], .func (.func 63) #[.agg #[.int .i64 0, .int .i64 n, .int .i64 d, .int .i64 r, .int .i64 l, .int .i64 b, .int .i64 g, .int .i64 k]] #[]]) 0).run Try.prog w = .ok (.func (.func 64) #[.agg #[.int .i64 0, .int .i64 n, .int .i64 d, .int .i64 r, .int .i64 l, .int .i64 b, .int .i64 g, .int .i64 k]] #[]) w := fun w => fld0 _ _ _ w
  refine wpAnyH_ready (rs := [1]) (by kernel_rfl) (by simp) ?_
  refine AllReadyH.cons rfl (fun J hJ => ?_) AllReadyH.nil
  go_simp
  go_at_call 35
  refine Calls.mono (stI_0 n d r l b g k _) ?_
  rintro e v1 ⟨rfl, hbc⟩
  have HK1 : Hid (KU w v1 (.cells #[.int .i64 0, .int .i64 n, .int .i64 d, .int .i64 r, .int .i64 l, .int .i64 b, .int .i64 g, .int .i64 k] 27) (.cells #[.int .i64 K, .int .i64 N, .int .i64 D, .int .i64 V] 30)) := HK0.out.on hbc
  have HZ1 : Hid (v1.heap[w.heap.size + 1 + 1]? = some (.cells #[.int .i64 0, .int .i64 0, .int .i64 0, .int .i64 0, .int .i64 0, .int .i64 0, .int .i64 0, .int .i64 0] 27)) := row_on HZ0.out hbc
  go_wp2_with fail
  refine hJ.out _ _ ?_ (fun hHeld1 => ?_)
  · exact ku_conj HK1.out
  clear hJ J hbc HK0 HZ0
  try simp only [Act.put, List.setIfInBounds_toArray, List.set_cons_zero, List.set_cons_succ, List.getElem_toArray, List.getElem_cons_zero, List.getElem_cons_succ]
  refine wpAnyH_take (i := 2) (v := ?_) rfl (by kernel_rfl) (by kernel_rfl) (by kernel_rfl) (fun _ _ _ h => h) (Or.inl ⟨by rfl, ?_⟩) (by assumption) ?_
  rotate_left
  · intro w_ hSw; (try dsimp only at hSw); go_simp <;> with_reducible rfl
  try simp only [Act.put, List.setIfInBounds_toArray, List.set_cons_zero, List.set_cons_succ, List.getElem_toArray, List.getElem_cons_zero, List.getElem_cons_succ]
  refine wpAnyH_ready (rs := [4]) (by kernel_rfl) (by simp) ?_
  refine AllReadyH.cons rfl (fun J hJ => ?_) AllReadyH.nil
  go_simp
  go_at_call 64
  refine Calls.mono (KT.out _) ?_
  rintro e v2 ⟨rfl, hbc⟩
  have HK2 : Hid (KU w v2 (.cells #[.int .i64 0, .int .i64 n, .int .i64 d, .int .i64 r, .int .i64 l, .int .i64 b, .int .i64 g, .int .i64 k] 27) (.cells #[.int .i64 K, .int .i64 N, .int .i64 D, .int .i64 V] 30)) := HK1.out.on hbc
  have HZ2 : Hid (v2.heap[w.heap.size + 1 + 1]? = some (.cells #[.int .i64 0, .int .i64 0, .int .i64 0, .int .i64 0, .int .i64 0, .int .i64 0, .int .i64 0, .int .i64 0] 27)) := row_on HZ1.out hbc
  go_wp2_with fail
  refine hJ.out _ _ ?_ (fun hHeld2 => ?_)
  · exact ku_conj HK2.out
  clear hJ J hbc HK1 HZ1
  try simp only [Act.put, List.setIfInBounds_toArray, List.set_cons_zero, List.set_cons_succ, List.getElem_toArray, List.getElem_cons_zero, List.getElem_cons_succ]
  refine wpAnyH_take (i := 5) (v := ?_) rfl (by kernel_rfl) (by kernel_rfl) (by kernel_rfl) (fun _ _ _ h => h) (Or.inl ⟨by rfl, ?_⟩) (by assumption) ?_
  rotate_left
  · intro w_ hSw; (try dsimp only at hSw); go_simp <;> with_reducible rfl
  try simp only [Act.put, List.setIfInBounds_toArray, List.set_cons_zero, List.set_cons_succ, List.getElem_toArray, List.getElem_cons_zero, List.getElem_cons_succ]
  refine wpAnyH_take (i := 6) (v := ?_) rfl (by kernel_rfl) (by kernel_rfl) (by kernel_rfl) (fun _ _ _ h => h) (Or.inl ⟨by rfl, ?_⟩) (by assumption) ?_
  rotate_left
  · intro w_ hSw; (try dsimp only at hSw); go_simp <;> with_reducible rfl
  try simp only [Act.put, List.setIfInBounds_toArray, List.set_cons_zero, List.set_cons_succ, List.getElem_toArray, List.getElem_cons_zero, List.getElem_cons_succ]
  refine wpAnyH_ready (rs := [7]) (by kernel_rfl) (by simp) ?_
  refine AllReadyH.cons rfl (fun J hJ => ?_) AllReadyH.nil
  have kz := box8_cells HZ2.out
  go_simp
  have HPn : Hid (((((((((v2.setCell ⟨w.heap.size + 1 + 1, 0, none⟩ (.int .i64 z0)).setCell ⟨w.heap.size + 1 + 1, 1, none⟩ (.int .i64 z1)).setCell ⟨w.heap.size + 1 + 1, 2, none⟩ (.int .i64 z2)).setCell ⟨w.heap.size + 1 + 1, 3, none⟩ (.int .i64 z3)).setCell ⟨w.heap.size + 1 + 1, 4, none⟩ (.int .i64 z4)).setCell ⟨w.heap.size + 1 + 1, 5, none⟩ (.int .i64 z5)).setCell ⟨w.heap.size + 1 + 1, 6, none⟩ (.int .i64 z6)).setCell ⟨w.heap.size + 1 + 1, 7, none⟩ (.int .i64 z7)).heap[w.heap.size + 1 + 1]? = some (.cells #[.int .i64 z0, .int .i64 z1, .int .i64 z2, .int .i64 z3, .int .i64 z4, .int .i64 z5, .int .i64 z6, .int .i64 z7] 27)) := set8_row z0 z1 z2 z3 z4 z5 z6 z7 HZ2.out
  have HBn : Hid (Below w.heap.size w ((((((((v2.setCell ⟨w.heap.size + 1 + 1, 0, none⟩ (.int .i64 z0)).setCell ⟨w.heap.size + 1 + 1, 1, none⟩ (.int .i64 z1)).setCell ⟨w.heap.size + 1 + 1, 2, none⟩ (.int .i64 z2)).setCell ⟨w.heap.size + 1 + 1, 3, none⟩ (.int .i64 z3)).setCell ⟨w.heap.size + 1 + 1, 4, none⟩ (.int .i64 z4)).setCell ⟨w.heap.size + 1 + 1, 5, none⟩ (.int .i64 z5)).setCell ⟨w.heap.size + 1 + 1, 6, none⟩ (.int .i64 z6)).setCell ⟨w.heap.size + 1 + 1, 7, none⟩ (.int .i64 z7))) := set8_bel z0 z1 z2 z3 z4 z5 z6 z7 HK2.out.2.2 (le2 _)
  have HKn : Hid (KU w ((((((((v2.setCell ⟨w.heap.size + 1 + 1, 0, none⟩ (.int .i64 z0)).setCell ⟨w.heap.size + 1 + 1, 1, none⟩ (.int .i64 z1)).setCell ⟨w.heap.size + 1 + 1, 2, none⟩ (.int .i64 z2)).setCell ⟨w.heap.size + 1 + 1, 3, none⟩ (.int .i64 z3)).setCell ⟨w.heap.size + 1 + 1, 4, none⟩ (.int .i64 z4)).setCell ⟨w.heap.size + 1 + 1, 5, none⟩ (.int .i64 z5)).setCell ⟨w.heap.size + 1 + 1, 6, none⟩ (.int .i64 z6)).setCell ⟨w.heap.size + 1 + 1, 7, none⟩ (.int .i64 z7)) (.cells #[.int .i64 0, .int .i64 n, .int .i64 d, .int .i64 r, .int .i64 l, .int .i64 b, .int .i64 g, .int .i64 k] 27) (.cells #[.int .i64 K, .int .i64 N, .int .i64 D, .int .i64 V] 30)) := ⟨set8_far z0 z1 z2 z3 z4 z5 z6 z7 HK2.out.1 (by omega), set8_far z0 z1 z2 z3 z4 z5 z6 z7 HK2.out.2.1 (by omega), HBn.out⟩
  refine hJ.out _ _ (ku_conj HKn.out) (fun hHeld3 => ?_)
  clear hJ J kz HK2 HZ2
  try simp only [Act.put, List.setIfInBounds_toArray, List.set_cons_zero, List.set_cons_succ, List.getElem_toArray, List.getElem_cons_zero, List.getElem_cons_succ]
  generalize ((((((((v2.setCell ⟨w.heap.size + 1 + 1, 0, none⟩ (.int .i64 z0)).setCell ⟨w.heap.size + 1 + 1, 1, none⟩ (.int .i64 z1)).setCell ⟨w.heap.size + 1 + 1, 2, none⟩ (.int .i64 z2)).setCell ⟨w.heap.size + 1 + 1, 3, none⟩ (.int .i64 z3)).setCell ⟨w.heap.size + 1 + 1, 4, none⟩ (.int .i64 z4)).setCell ⟨w.heap.size + 1 + 1, 5, none⟩ (.int .i64 z5)).setCell ⟨w.heap.size + 1 + 1, 6, none⟩ (.int .i64 z6)).setCell ⟨w.heap.size + 1 + 1, 7, none⟩ (.int .i64 z7)) = w9 at *
  refine wpAnyH_take (i := 8) (v := ?_) rfl (by kernel_rfl) (by kernel_rfl) (by kernel_rfl) (fun _ _ _ h => h) (Or.inl ⟨by rfl, ?_⟩) (by assumption) ?_
  rotate_left
  · intro w_ hSw; (try dsimp only at hSw); go_simp <;> with_reducible rfl
  try simp only [Act.put, List.setIfInBounds_toArray, List.set_cons_zero, List.set_cons_succ, List.getElem_toArray, List.getElem_cons_zero, List.getElem_cons_succ]
  refine wpAnyH_done (by kernel_rfl) ?_ _
  clear hHeld hHeld1 hHeld2 hHeld3
  obtain ⟨⟨q0, q1, q2, q3, q4, q5, q6, q7⟩, _⟩ := box8_cells HPn.out
  go_wp2
  refine bodyPost_ret (v := .tuple #[.agg #[.int .i64 z0, .int .i64 z1, .int .i64 z2, .int .i64 z3, .int .i64 z4, .int .i64 z5, .int .i64 z6, .int .i64 z7], .bool y]) (by simp only [results, Try.results16]; simp [go_sem, q0, q1, q2, q3, q4, q5, q6, q7]) rfl ⟨rfl, HBn.out⟩
set_option maxRecDepth 100000 in
set_option maxHeartbeats 4000000 in
theorem tkI_1 (n d r l b g k K N D V z0 z1 z2 z3 z4 z5 z6 z7 : Int) {y : Bool} (KP : Hid (∀ w, Calls Try.prog 21 #[.agg #[.int .i64 1, .int .i64 n, .int .i64 d, .int .i64 r, .int .i64 l, .int .i64 b, .int .i64 g, .int .i64 k]] w fun e w' => e = .returned (.bool true) ∧ Below w.heap.size w w')) (KO : Hid (∀ w, Calls Try.prog 34 #[.agg #[.int .i64 K, .int .i64 N, .int .i64 D, .int .i64 V]] w fun e w' => e = .returned (.bool true) ∧ Below w.heap.size w w')) (KT : Hid (∀ w, Calls Try.prog 55 #[.agg #[.int .i64 1, .int .i64 n, .int .i64 d, .int .i64 r, .int .i64 l, .int .i64 b, .int .i64 g, .int .i64 k], .agg #[.int .i64 K, .int .i64 N, .int .i64 D, .int .i64 V]] w fun e w' => e = .returned (.tuple #[.agg #[.int .i64 z0, .int .i64 z1, .int .i64 z2, .int .i64 z3, .int .i64 z4, .int .i64 z5, .int .i64 z6, .int .i64 z7], .bool y]) ∧ Below w.heap.size w w')) (w : World) : Calls Try.prog 16 #[.agg #[.int .i64 1, .int .i64 n, .int .i64 d, .int .i64 r, .int .i64 l, .int .i64 b, .int .i64 g, .int .i64 k], .agg #[.int .i64 K, .int .i64 N, .int .i64 D, .int .i64 V]] w fun e w' => e = .returned (.tuple #[.agg #[.int .i64 z0, .int .i64 z1, .int .i64 z2, .int .i64 z3, .int .i64 z4, .int .i64 z5, .int .i64 z6, .int .i64 z7], .bool y]) ∧ Below w.heap.size w w' := by
  have HB0 : Hid (Below w.heap.size w (((w.alloc (.cells #[.int .i64 1, .int .i64 n, .int .i64 d, .int .i64 r, .int .i64 l, .int .i64 b, .int .i64 g, .int .i64 k] 27)).alloc (.cells #[.int .i64 K, .int .i64 N, .int .i64 D, .int .i64 V] 30)).alloc (.cells #[.int .i64 0, .int .i64 0, .int .i64 0, .int .i64 0, .int .i64 0, .int .i64 0, .int .i64 0, .int .i64 0] 27))) := bel_on (Nat.le_refl _) (bel_on (Nat.le_refl _) (alP _ _) (alP _ _)) (alP _ _)
  have HP0 : Hid ((((w.alloc (.cells #[.int .i64 1, .int .i64 n, .int .i64 d, .int .i64 r, .int .i64 l, .int .i64 b, .int .i64 g, .int .i64 k] 27)).alloc (.cells #[.int .i64 K, .int .i64 N, .int .i64 D, .int .i64 V] 30)).alloc (.cells #[.int .i64 0, .int .i64 0, .int .i64 0, .int .i64 0, .int .i64 0, .int .i64 0, .int .i64 0, .int .i64 0] 27)).heap[w.heap.size]? = some (.cells #[.int .i64 1, .int .i64 n, .int .i64 d, .int .i64 r, .int .i64 l, .int .i64 b, .int .i64 g, .int .i64 k] 27)) := row_on (row_on (heap_new w _) (alP _ _)) (alP _ _)
  have HO0 : Hid ((((w.alloc (.cells #[.int .i64 1, .int .i64 n, .int .i64 d, .int .i64 r, .int .i64 l, .int .i64 b, .int .i64 g, .int .i64 k] 27)).alloc (.cells #[.int .i64 K, .int .i64 N, .int .i64 D, .int .i64 V] 30)).alloc (.cells #[.int .i64 0, .int .i64 0, .int .i64 0, .int .i64 0, .int .i64 0, .int .i64 0, .int .i64 0, .int .i64 0] 27)).heap[w.heap.size + 1]? = some (.cells #[.int .i64 K, .int .i64 N, .int .i64 D, .int .i64 V] 30)) := row_on (al_at (w.alloc (.cells #[.int .i64 1, .int .i64 n, .int .i64 d, .int .i64 r, .int .i64 l, .int .i64 b, .int .i64 g, .int .i64 k] 27)) _ (by simp)) (alP _ _)
  have HZ0 : Hid ((((w.alloc (.cells #[.int .i64 1, .int .i64 n, .int .i64 d, .int .i64 r, .int .i64 l, .int .i64 b, .int .i64 g, .int .i64 k] 27)).alloc (.cells #[.int .i64 K, .int .i64 N, .int .i64 D, .int .i64 V] 30)).alloc (.cells #[.int .i64 0, .int .i64 0, .int .i64 0, .int .i64 0, .int .i64 0, .int .i64 0, .int .i64 0, .int .i64 0] 27)).heap[w.heap.size + 1 + 1]? = some (.cells #[.int .i64 0, .int .i64 0, .int .i64 0, .int .i64 0, .int .i64 0, .int .i64 0, .int .i64 0, .int .i64 0] 27)) := al_at ((w.alloc (.cells #[.int .i64 1, .int .i64 n, .int .i64 d, .int .i64 r, .int .i64 l, .int .i64 b, .int .i64 g, .int .i64 k] 27)).alloc (.cells #[.int .i64 K, .int .i64 N, .int .i64 D, .int .i64 V] 30)) _ (by simp)
  have p0 := box8_cells HP0.out
  have o0 := box4_cells HO0.out
  go_enter Try.func16, Try.ntmps16
  go_wp2_with fail
  refine Calls.mono (KP.out _) ?_
  rintro e w1 ⟨rfl, hb⟩
  have HB1 : Hid (Below w.heap.size w w1) := bel_on (Nat.le_refl _) HB0.out hb
  have HP1 : Hid (w1.heap[w.heap.size]? = some (.cells #[.int .i64 1, .int .i64 n, .int .i64 d, .int .i64 r, .int .i64 l, .int .i64 b, .int .i64 g, .int .i64 k] 27)) := row_on HP0.out hb
  have HO1 : Hid (w1.heap[w.heap.size + 1]? = some (.cells #[.int .i64 K, .int .i64 N, .int .i64 D, .int .i64 V] 30)) := row_on HO0.out hb
  have HZ1 : Hid (w1.heap[w.heap.size + 1 + 1]? = some (.cells #[.int .i64 0, .int .i64 0, .int .i64 0, .int .i64 0, .int .i64 0, .int .i64 0, .int .i64 0, .int .i64 0] 27)) := row_on HZ0.out hb
  have p1 := box8_cells HP1.out
  have o1 := box4_cells HO1.out
  clear hb HB0 HP0 HO0 HZ0 p0 o0
  go_wp2_with fail
  refine Calls.mono (KO.out _) ?_
  rintro e w2 ⟨rfl, hb⟩
  have HB2 : Hid (Below w.heap.size w w2) := bel_on (Nat.le_refl _) HB1.out hb
  have HP2 : Hid (w2.heap[w.heap.size]? = some (.cells #[.int .i64 1, .int .i64 n, .int .i64 d, .int .i64 r, .int .i64 l, .int .i64 b, .int .i64 g, .int .i64 k] 27)) := row_on HP1.out hb
  have HO2 : Hid (w2.heap[w.heap.size + 1]? = some (.cells #[.int .i64 K, .int .i64 N, .int .i64 D, .int .i64 V] 30)) := row_on HO1.out hb
  have HZ2 : Hid (w2.heap[w.heap.size + 1 + 1]? = some (.cells #[.int .i64 0, .int .i64 0, .int .i64 0, .int .i64 0, .int .i64 0, .int .i64 0, .int .i64 0, .int .i64 0] 27)) := row_on HZ1.out hb
  have p2 := box8_cells HP2.out
  have o2 := box4_cells HO2.out
  clear hb HB1 HP1 HO1 HZ1 p1 o1
  have HK0 : Hid (KU w w2.drew (.cells #[.int .i64 1, .int .i64 n, .int .i64 d, .int .i64 r, .int .i64 l, .int .i64 b, .int .i64 g, .int .i64 k] 27) (.cells #[.int .i64 K, .int .i64 N, .int .i64 D, .int .i64 V] 30)) := ⟨HP2.out, HO2.out, HB2.out.drew⟩
  have HZ0 : Hid (w2.drew.heap[w.heap.size + 1 + 1]? = some (.cells #[.int .i64 0, .int .i64 0, .int .i64 0, .int .i64 0, .int .i64 0, .int .i64 0, .int .i64 0, .int .i64 0] 27)) := HZ2.out
  go_wp2_with fail
  clear p2 o2 HB2 HP2 HO2 HZ2
  refine wp_region_held_drew (S := fun w' => w'.cell? ⟨w.heap.size, 0, none⟩ = some (.int .i64 1) ∧ w'.cell? ⟨w.heap.size, 1, none⟩ = some (.int .i64 n) ∧ w'.cell? ⟨w.heap.size, 2, none⟩ = some (.int .i64 d) ∧ w'.cell? ⟨w.heap.size, 3, none⟩ = some (.int .i64 r) ∧ w'.cell? ⟨w.heap.size, 4, none⟩ = some (.int .i64 l) ∧ w'.cell? ⟨w.heap.size, 5, none⟩ = some (.int .i64 b) ∧ w'.cell? ⟨w.heap.size, 6, none⟩ = some (.int .i64 g) ∧ w'.cell? ⟨w.heap.size, 7, none⟩ = some (.int .i64 k) ∧ w'.cell? ⟨w.heap.size + 1, 0, none⟩ = some (.int .i64 K) ∧ w'.cell? ⟨w.heap.size + 1, 1, none⟩ = some (.int .i64 N) ∧ w'.cell? ⟨w.heap.size + 1, 2, none⟩ = some (.int .i64 D) ∧ w'.cell? ⟨w.heap.size + 1, 3, none⟩ = some (.int .i64 V) ∧ KU w w' (.cells #[.int .i64 1, .int .i64 n, .int .i64 d, .int .i64 r, .int .i64 l, .int .i64 b, .int .i64 g, .int .i64 k] 27) (.cells #[.int .i64 K, .int .i64 N, .int .i64 D, .int .i64 V] 30)) (by kernel_rfl) (ku_conj HK0.out) (fun hHeld => ?_)
  refine wpAnyH_take (i := 0) (v := ?_) rfl (by kernel_rfl) (by kernel_rfl) (by kernel_rfl) (fun _ _ _ h => h) (Or.inl ⟨by rfl, ?_⟩) (by assumption) ?_
  rotate_left
  · intro w_ hSw; (try dsimp only at hSw); go_simp <;> with_reducible rfl
  try simp only [Act.put, List.setIfInBounds_toArray, List.set_cons_zero, List.set_cons_succ, List.getElem_toArray, List.getElem_cons_zero, List.getElem_cons_succ]
  refine wpAnyH_take (i := 3) (v := ?_) rfl (by kernel_rfl) (by kernel_rfl) (by kernel_rfl) (fun _ _ _ h => h) (Or.inl ⟨by rfl, ?_⟩) (by assumption) ?_
  rotate_left
  · intro w_ hSw; (try dsimp only at hSw); go_simp <;> with_reducible rfl
  try simp only [Act.put, List.setIfInBounds_toArray, List.set_cons_zero, List.set_cons_succ, List.getElem_toArray, List.getElem_cons_zero, List.getElem_cons_succ]
  have fl : ∀ w, (Instr.field 61 (.agg #[.func (.func 55) #[.agg #[.int .i64 1, .int .i64 n, .int .i64 d, .int .i64 r, .int .i64 l, .int .i64 b, .int .i64 g, .int .i64 k]] #[], .func (.func 56) #[.agg #[.int .i64 1, .int .i64 n, .int .i64 d, .int .i64 r, .int .i64 l, .int .i64 b, .int .i64 g, .int .i64 k]] #[], .func (.func 57) #[.agg #[.int .i64 1, .int .i64 n, .int .i64 d, .int .i64 r, .int .i64 l, .int .i64 b, .int .i64 g, .int .i64 k]] #[]]) 0).run Try.prog w = .ok (.func (.func 55) #[.agg #[.int .i64 1, .int .i64 n, .int .i64 d, .int .i64 r, .int .i64 l, .int .i64 b, .int .i64 g, .int .i64 k]] #[]) w := fun w => fld0 _ _ _ w
  refine wpAnyH_ready (rs := [1]) (by kernel_rfl) (by simp) ?_
  refine AllReadyH.cons rfl (fun J hJ => ?_) AllReadyH.nil
  go_simp
  go_at_call 35
  refine Calls.mono (stI_1 n d r l b g k _) ?_
  rintro e v1 ⟨rfl, hbc⟩
  have HK1 : Hid (KU w v1 (.cells #[.int .i64 1, .int .i64 n, .int .i64 d, .int .i64 r, .int .i64 l, .int .i64 b, .int .i64 g, .int .i64 k] 27) (.cells #[.int .i64 K, .int .i64 N, .int .i64 D, .int .i64 V] 30)) := HK0.out.on hbc
  have HZ1 : Hid (v1.heap[w.heap.size + 1 + 1]? = some (.cells #[.int .i64 0, .int .i64 0, .int .i64 0, .int .i64 0, .int .i64 0, .int .i64 0, .int .i64 0, .int .i64 0] 27)) := row_on HZ0.out hbc
  go_wp2_with fail
  refine hJ.out _ _ ?_ (fun hHeld1 => ?_)
  · exact ku_conj HK1.out
  clear hJ J hbc HK0 HZ0
  try simp only [Act.put, List.setIfInBounds_toArray, List.set_cons_zero, List.set_cons_succ, List.getElem_toArray, List.getElem_cons_zero, List.getElem_cons_succ]
  refine wpAnyH_take (i := 2) (v := ?_) rfl (by kernel_rfl) (by kernel_rfl) (by kernel_rfl) (fun _ _ _ h => h) (Or.inl ⟨by rfl, ?_⟩) (by assumption) ?_
  rotate_left
  · intro w_ hSw; (try dsimp only at hSw); go_simp <;> with_reducible rfl
  try simp only [Act.put, List.setIfInBounds_toArray, List.set_cons_zero, List.set_cons_succ, List.getElem_toArray, List.getElem_cons_zero, List.getElem_cons_succ]
  refine wpAnyH_ready (rs := [4]) (by kernel_rfl) (by simp) ?_
  refine AllReadyH.cons rfl (fun J hJ => ?_) AllReadyH.nil
  go_simp
  go_at_call 55
  refine Calls.mono (KT.out _) ?_
  rintro e v2 ⟨rfl, hbc⟩
  have HK2 : Hid (KU w v2 (.cells #[.int .i64 1, .int .i64 n, .int .i64 d, .int .i64 r, .int .i64 l, .int .i64 b, .int .i64 g, .int .i64 k] 27) (.cells #[.int .i64 K, .int .i64 N, .int .i64 D, .int .i64 V] 30)) := HK1.out.on hbc
  have HZ2 : Hid (v2.heap[w.heap.size + 1 + 1]? = some (.cells #[.int .i64 0, .int .i64 0, .int .i64 0, .int .i64 0, .int .i64 0, .int .i64 0, .int .i64 0, .int .i64 0] 27)) := row_on HZ1.out hbc
  go_wp2_with fail
  refine hJ.out _ _ ?_ (fun hHeld2 => ?_)
  · exact ku_conj HK2.out
  clear hJ J hbc HK1 HZ1
  try simp only [Act.put, List.setIfInBounds_toArray, List.set_cons_zero, List.set_cons_succ, List.getElem_toArray, List.getElem_cons_zero, List.getElem_cons_succ]
  refine wpAnyH_take (i := 5) (v := ?_) rfl (by kernel_rfl) (by kernel_rfl) (by kernel_rfl) (fun _ _ _ h => h) (Or.inl ⟨by rfl, ?_⟩) (by assumption) ?_
  rotate_left
  · intro w_ hSw; (try dsimp only at hSw); go_simp <;> with_reducible rfl
  try simp only [Act.put, List.setIfInBounds_toArray, List.set_cons_zero, List.set_cons_succ, List.getElem_toArray, List.getElem_cons_zero, List.getElem_cons_succ]
  refine wpAnyH_take (i := 6) (v := ?_) rfl (by kernel_rfl) (by kernel_rfl) (by kernel_rfl) (fun _ _ _ h => h) (Or.inl ⟨by rfl, ?_⟩) (by assumption) ?_
  rotate_left
  · intro w_ hSw; (try dsimp only at hSw); go_simp <;> with_reducible rfl
  try simp only [Act.put, List.setIfInBounds_toArray, List.set_cons_zero, List.set_cons_succ, List.getElem_toArray, List.getElem_cons_zero, List.getElem_cons_succ]
  refine wpAnyH_ready (rs := [7]) (by kernel_rfl) (by simp) ?_
  refine AllReadyH.cons rfl (fun J hJ => ?_) AllReadyH.nil
  have kz := box8_cells HZ2.out
  go_simp
  have HPn : Hid (((((((((v2.setCell ⟨w.heap.size + 1 + 1, 0, none⟩ (.int .i64 z0)).setCell ⟨w.heap.size + 1 + 1, 1, none⟩ (.int .i64 z1)).setCell ⟨w.heap.size + 1 + 1, 2, none⟩ (.int .i64 z2)).setCell ⟨w.heap.size + 1 + 1, 3, none⟩ (.int .i64 z3)).setCell ⟨w.heap.size + 1 + 1, 4, none⟩ (.int .i64 z4)).setCell ⟨w.heap.size + 1 + 1, 5, none⟩ (.int .i64 z5)).setCell ⟨w.heap.size + 1 + 1, 6, none⟩ (.int .i64 z6)).setCell ⟨w.heap.size + 1 + 1, 7, none⟩ (.int .i64 z7)).heap[w.heap.size + 1 + 1]? = some (.cells #[.int .i64 z0, .int .i64 z1, .int .i64 z2, .int .i64 z3, .int .i64 z4, .int .i64 z5, .int .i64 z6, .int .i64 z7] 27)) := set8_row z0 z1 z2 z3 z4 z5 z6 z7 HZ2.out
  have HBn : Hid (Below w.heap.size w ((((((((v2.setCell ⟨w.heap.size + 1 + 1, 0, none⟩ (.int .i64 z0)).setCell ⟨w.heap.size + 1 + 1, 1, none⟩ (.int .i64 z1)).setCell ⟨w.heap.size + 1 + 1, 2, none⟩ (.int .i64 z2)).setCell ⟨w.heap.size + 1 + 1, 3, none⟩ (.int .i64 z3)).setCell ⟨w.heap.size + 1 + 1, 4, none⟩ (.int .i64 z4)).setCell ⟨w.heap.size + 1 + 1, 5, none⟩ (.int .i64 z5)).setCell ⟨w.heap.size + 1 + 1, 6, none⟩ (.int .i64 z6)).setCell ⟨w.heap.size + 1 + 1, 7, none⟩ (.int .i64 z7))) := set8_bel z0 z1 z2 z3 z4 z5 z6 z7 HK2.out.2.2 (le2 _)
  have HKn : Hid (KU w ((((((((v2.setCell ⟨w.heap.size + 1 + 1, 0, none⟩ (.int .i64 z0)).setCell ⟨w.heap.size + 1 + 1, 1, none⟩ (.int .i64 z1)).setCell ⟨w.heap.size + 1 + 1, 2, none⟩ (.int .i64 z2)).setCell ⟨w.heap.size + 1 + 1, 3, none⟩ (.int .i64 z3)).setCell ⟨w.heap.size + 1 + 1, 4, none⟩ (.int .i64 z4)).setCell ⟨w.heap.size + 1 + 1, 5, none⟩ (.int .i64 z5)).setCell ⟨w.heap.size + 1 + 1, 6, none⟩ (.int .i64 z6)).setCell ⟨w.heap.size + 1 + 1, 7, none⟩ (.int .i64 z7)) (.cells #[.int .i64 1, .int .i64 n, .int .i64 d, .int .i64 r, .int .i64 l, .int .i64 b, .int .i64 g, .int .i64 k] 27) (.cells #[.int .i64 K, .int .i64 N, .int .i64 D, .int .i64 V] 30)) := ⟨set8_far z0 z1 z2 z3 z4 z5 z6 z7 HK2.out.1 (by omega), set8_far z0 z1 z2 z3 z4 z5 z6 z7 HK2.out.2.1 (by omega), HBn.out⟩
  refine hJ.out _ _ (ku_conj HKn.out) (fun hHeld3 => ?_)
  clear hJ J kz HK2 HZ2
  try simp only [Act.put, List.setIfInBounds_toArray, List.set_cons_zero, List.set_cons_succ, List.getElem_toArray, List.getElem_cons_zero, List.getElem_cons_succ]
  generalize ((((((((v2.setCell ⟨w.heap.size + 1 + 1, 0, none⟩ (.int .i64 z0)).setCell ⟨w.heap.size + 1 + 1, 1, none⟩ (.int .i64 z1)).setCell ⟨w.heap.size + 1 + 1, 2, none⟩ (.int .i64 z2)).setCell ⟨w.heap.size + 1 + 1, 3, none⟩ (.int .i64 z3)).setCell ⟨w.heap.size + 1 + 1, 4, none⟩ (.int .i64 z4)).setCell ⟨w.heap.size + 1 + 1, 5, none⟩ (.int .i64 z5)).setCell ⟨w.heap.size + 1 + 1, 6, none⟩ (.int .i64 z6)).setCell ⟨w.heap.size + 1 + 1, 7, none⟩ (.int .i64 z7)) = w9 at *
  refine wpAnyH_take (i := 8) (v := ?_) rfl (by kernel_rfl) (by kernel_rfl) (by kernel_rfl) (fun _ _ _ h => h) (Or.inl ⟨by rfl, ?_⟩) (by assumption) ?_
  rotate_left
  · intro w_ hSw; (try dsimp only at hSw); go_simp <;> with_reducible rfl
  try simp only [Act.put, List.setIfInBounds_toArray, List.set_cons_zero, List.set_cons_succ, List.getElem_toArray, List.getElem_cons_zero, List.getElem_cons_succ]
  refine wpAnyH_done (by kernel_rfl) ?_ _
  clear hHeld hHeld1 hHeld2 hHeld3
  obtain ⟨⟨q0, q1, q2, q3, q4, q5, q6, q7⟩, _⟩ := box8_cells HPn.out
  go_wp2
  refine bodyPost_ret (v := .tuple #[.agg #[.int .i64 z0, .int .i64 z1, .int .i64 z2, .int .i64 z3, .int .i64 z4, .int .i64 z5, .int .i64 z6, .int .i64 z7], .bool y]) (by simp only [results, Try.results16]; simp [go_sem, q0, q1, q2, q3, q4, q5, q6, q7]) rfl ⟨rfl, HBn.out⟩
set_option maxRecDepth 100000 in
set_option maxHeartbeats 4000000 in
theorem tkI_2 (n d r l b g k K N D V z0 z1 z2 z3 z4 z5 z6 z7 : Int) {y : Bool} (KP : Hid (∀ w, Calls Try.prog 21 #[.agg #[.int .i64 2, .int .i64 n, .int .i64 d, .int .i64 r, .int .i64 l, .int .i64 b, .int .i64 g, .int .i64 k]] w fun e w' => e = .returned (.bool true) ∧ Below w.heap.size w w')) (KO : Hid (∀ w, Calls Try.prog 34 #[.agg #[.int .i64 K, .int .i64 N, .int .i64 D, .int .i64 V]] w fun e w' => e = .returned (.bool true) ∧ Below w.heap.size w w')) (KT : Hid (∀ w, Calls Try.prog 58 #[.agg #[.int .i64 2, .int .i64 n, .int .i64 d, .int .i64 r, .int .i64 l, .int .i64 b, .int .i64 g, .int .i64 k], .agg #[.int .i64 K, .int .i64 N, .int .i64 D, .int .i64 V]] w fun e w' => e = .returned (.tuple #[.agg #[.int .i64 z0, .int .i64 z1, .int .i64 z2, .int .i64 z3, .int .i64 z4, .int .i64 z5, .int .i64 z6, .int .i64 z7], .bool y]) ∧ Below w.heap.size w w')) (w : World) : Calls Try.prog 16 #[.agg #[.int .i64 2, .int .i64 n, .int .i64 d, .int .i64 r, .int .i64 l, .int .i64 b, .int .i64 g, .int .i64 k], .agg #[.int .i64 K, .int .i64 N, .int .i64 D, .int .i64 V]] w fun e w' => e = .returned (.tuple #[.agg #[.int .i64 z0, .int .i64 z1, .int .i64 z2, .int .i64 z3, .int .i64 z4, .int .i64 z5, .int .i64 z6, .int .i64 z7], .bool y]) ∧ Below w.heap.size w w' := by
  have HB0 : Hid (Below w.heap.size w (((w.alloc (.cells #[.int .i64 2, .int .i64 n, .int .i64 d, .int .i64 r, .int .i64 l, .int .i64 b, .int .i64 g, .int .i64 k] 27)).alloc (.cells #[.int .i64 K, .int .i64 N, .int .i64 D, .int .i64 V] 30)).alloc (.cells #[.int .i64 0, .int .i64 0, .int .i64 0, .int .i64 0, .int .i64 0, .int .i64 0, .int .i64 0, .int .i64 0] 27))) := bel_on (Nat.le_refl _) (bel_on (Nat.le_refl _) (alP _ _) (alP _ _)) (alP _ _)
  have HP0 : Hid ((((w.alloc (.cells #[.int .i64 2, .int .i64 n, .int .i64 d, .int .i64 r, .int .i64 l, .int .i64 b, .int .i64 g, .int .i64 k] 27)).alloc (.cells #[.int .i64 K, .int .i64 N, .int .i64 D, .int .i64 V] 30)).alloc (.cells #[.int .i64 0, .int .i64 0, .int .i64 0, .int .i64 0, .int .i64 0, .int .i64 0, .int .i64 0, .int .i64 0] 27)).heap[w.heap.size]? = some (.cells #[.int .i64 2, .int .i64 n, .int .i64 d, .int .i64 r, .int .i64 l, .int .i64 b, .int .i64 g, .int .i64 k] 27)) := row_on (row_on (heap_new w _) (alP _ _)) (alP _ _)
  have HO0 : Hid ((((w.alloc (.cells #[.int .i64 2, .int .i64 n, .int .i64 d, .int .i64 r, .int .i64 l, .int .i64 b, .int .i64 g, .int .i64 k] 27)).alloc (.cells #[.int .i64 K, .int .i64 N, .int .i64 D, .int .i64 V] 30)).alloc (.cells #[.int .i64 0, .int .i64 0, .int .i64 0, .int .i64 0, .int .i64 0, .int .i64 0, .int .i64 0, .int .i64 0] 27)).heap[w.heap.size + 1]? = some (.cells #[.int .i64 K, .int .i64 N, .int .i64 D, .int .i64 V] 30)) := row_on (al_at (w.alloc (.cells #[.int .i64 2, .int .i64 n, .int .i64 d, .int .i64 r, .int .i64 l, .int .i64 b, .int .i64 g, .int .i64 k] 27)) _ (by simp)) (alP _ _)
  have HZ0 : Hid ((((w.alloc (.cells #[.int .i64 2, .int .i64 n, .int .i64 d, .int .i64 r, .int .i64 l, .int .i64 b, .int .i64 g, .int .i64 k] 27)).alloc (.cells #[.int .i64 K, .int .i64 N, .int .i64 D, .int .i64 V] 30)).alloc (.cells #[.int .i64 0, .int .i64 0, .int .i64 0, .int .i64 0, .int .i64 0, .int .i64 0, .int .i64 0, .int .i64 0] 27)).heap[w.heap.size + 1 + 1]? = some (.cells #[.int .i64 0, .int .i64 0, .int .i64 0, .int .i64 0, .int .i64 0, .int .i64 0, .int .i64 0, .int .i64 0] 27)) := al_at ((w.alloc (.cells #[.int .i64 2, .int .i64 n, .int .i64 d, .int .i64 r, .int .i64 l, .int .i64 b, .int .i64 g, .int .i64 k] 27)).alloc (.cells #[.int .i64 K, .int .i64 N, .int .i64 D, .int .i64 V] 30)) _ (by simp)
  have p0 := box8_cells HP0.out
  have o0 := box4_cells HO0.out
  go_enter Try.func16, Try.ntmps16
  go_wp2_with fail
  refine Calls.mono (KP.out _) ?_
  rintro e w1 ⟨rfl, hb⟩
  have HB1 : Hid (Below w.heap.size w w1) := bel_on (Nat.le_refl _) HB0.out hb
  have HP1 : Hid (w1.heap[w.heap.size]? = some (.cells #[.int .i64 2, .int .i64 n, .int .i64 d, .int .i64 r, .int .i64 l, .int .i64 b, .int .i64 g, .int .i64 k] 27)) := row_on HP0.out hb
  have HO1 : Hid (w1.heap[w.heap.size + 1]? = some (.cells #[.int .i64 K, .int .i64 N, .int .i64 D, .int .i64 V] 30)) := row_on HO0.out hb
  have HZ1 : Hid (w1.heap[w.heap.size + 1 + 1]? = some (.cells #[.int .i64 0, .int .i64 0, .int .i64 0, .int .i64 0, .int .i64 0, .int .i64 0, .int .i64 0, .int .i64 0] 27)) := row_on HZ0.out hb
  have p1 := box8_cells HP1.out
  have o1 := box4_cells HO1.out
  clear hb HB0 HP0 HO0 HZ0 p0 o0
  go_wp2_with fail
  refine Calls.mono (KO.out _) ?_
  rintro e w2 ⟨rfl, hb⟩
  have HB2 : Hid (Below w.heap.size w w2) := bel_on (Nat.le_refl _) HB1.out hb
  have HP2 : Hid (w2.heap[w.heap.size]? = some (.cells #[.int .i64 2, .int .i64 n, .int .i64 d, .int .i64 r, .int .i64 l, .int .i64 b, .int .i64 g, .int .i64 k] 27)) := row_on HP1.out hb
  have HO2 : Hid (w2.heap[w.heap.size + 1]? = some (.cells #[.int .i64 K, .int .i64 N, .int .i64 D, .int .i64 V] 30)) := row_on HO1.out hb
  have HZ2 : Hid (w2.heap[w.heap.size + 1 + 1]? = some (.cells #[.int .i64 0, .int .i64 0, .int .i64 0, .int .i64 0, .int .i64 0, .int .i64 0, .int .i64 0, .int .i64 0] 27)) := row_on HZ1.out hb
  have p2 := box8_cells HP2.out
  have o2 := box4_cells HO2.out
  clear hb HB1 HP1 HO1 HZ1 p1 o1
  have HK0 : Hid (KU w w2.drew (.cells #[.int .i64 2, .int .i64 n, .int .i64 d, .int .i64 r, .int .i64 l, .int .i64 b, .int .i64 g, .int .i64 k] 27) (.cells #[.int .i64 K, .int .i64 N, .int .i64 D, .int .i64 V] 30)) := ⟨HP2.out, HO2.out, HB2.out.drew⟩
  have HZ0 : Hid (w2.drew.heap[w.heap.size + 1 + 1]? = some (.cells #[.int .i64 0, .int .i64 0, .int .i64 0, .int .i64 0, .int .i64 0, .int .i64 0, .int .i64 0, .int .i64 0] 27)) := HZ2.out
  go_wp2_with fail
  clear p2 o2 HB2 HP2 HO2 HZ2
  refine wp_region_held_drew (S := fun w' => w'.cell? ⟨w.heap.size, 0, none⟩ = some (.int .i64 2) ∧ w'.cell? ⟨w.heap.size, 1, none⟩ = some (.int .i64 n) ∧ w'.cell? ⟨w.heap.size, 2, none⟩ = some (.int .i64 d) ∧ w'.cell? ⟨w.heap.size, 3, none⟩ = some (.int .i64 r) ∧ w'.cell? ⟨w.heap.size, 4, none⟩ = some (.int .i64 l) ∧ w'.cell? ⟨w.heap.size, 5, none⟩ = some (.int .i64 b) ∧ w'.cell? ⟨w.heap.size, 6, none⟩ = some (.int .i64 g) ∧ w'.cell? ⟨w.heap.size, 7, none⟩ = some (.int .i64 k) ∧ w'.cell? ⟨w.heap.size + 1, 0, none⟩ = some (.int .i64 K) ∧ w'.cell? ⟨w.heap.size + 1, 1, none⟩ = some (.int .i64 N) ∧ w'.cell? ⟨w.heap.size + 1, 2, none⟩ = some (.int .i64 D) ∧ w'.cell? ⟨w.heap.size + 1, 3, none⟩ = some (.int .i64 V) ∧ KU w w' (.cells #[.int .i64 2, .int .i64 n, .int .i64 d, .int .i64 r, .int .i64 l, .int .i64 b, .int .i64 g, .int .i64 k] 27) (.cells #[.int .i64 K, .int .i64 N, .int .i64 D, .int .i64 V] 30)) (by kernel_rfl) (ku_conj HK0.out) (fun hHeld => ?_)
  refine wpAnyH_take (i := 0) (v := ?_) rfl (by kernel_rfl) (by kernel_rfl) (by kernel_rfl) (fun _ _ _ h => h) (Or.inl ⟨by rfl, ?_⟩) (by assumption) ?_
  rotate_left
  · intro w_ hSw; (try dsimp only at hSw); go_simp <;> with_reducible rfl
  try simp only [Act.put, List.setIfInBounds_toArray, List.set_cons_zero, List.set_cons_succ, List.getElem_toArray, List.getElem_cons_zero, List.getElem_cons_succ]
  refine wpAnyH_take (i := 3) (v := ?_) rfl (by kernel_rfl) (by kernel_rfl) (by kernel_rfl) (fun _ _ _ h => h) (Or.inl ⟨by rfl, ?_⟩) (by assumption) ?_
  rotate_left
  · intro w_ hSw; (try dsimp only at hSw); go_simp <;> with_reducible rfl
  try simp only [Act.put, List.setIfInBounds_toArray, List.set_cons_zero, List.set_cons_succ, List.getElem_toArray, List.getElem_cons_zero, List.getElem_cons_succ]
  have fl : ∀ w, (Instr.field 61 (.agg #[.func (.func 58) #[.agg #[.int .i64 2, .int .i64 n, .int .i64 d, .int .i64 r, .int .i64 l, .int .i64 b, .int .i64 g, .int .i64 k]] #[], .func (.func 59) #[.agg #[.int .i64 2, .int .i64 n, .int .i64 d, .int .i64 r, .int .i64 l, .int .i64 b, .int .i64 g, .int .i64 k]] #[], .func (.func 60) #[.agg #[.int .i64 2, .int .i64 n, .int .i64 d, .int .i64 r, .int .i64 l, .int .i64 b, .int .i64 g, .int .i64 k]] #[]]) 0).run Try.prog w = .ok (.func (.func 58) #[.agg #[.int .i64 2, .int .i64 n, .int .i64 d, .int .i64 r, .int .i64 l, .int .i64 b, .int .i64 g, .int .i64 k]] #[]) w := fun w => fld0 _ _ _ w
  refine wpAnyH_ready (rs := [1]) (by kernel_rfl) (by simp) ?_
  refine AllReadyH.cons rfl (fun J hJ => ?_) AllReadyH.nil
  go_simp
  go_at_call 35
  refine Calls.mono (stI_2 n d r l b g k _) ?_
  rintro e v1 ⟨rfl, hbc⟩
  have HK1 : Hid (KU w v1 (.cells #[.int .i64 2, .int .i64 n, .int .i64 d, .int .i64 r, .int .i64 l, .int .i64 b, .int .i64 g, .int .i64 k] 27) (.cells #[.int .i64 K, .int .i64 N, .int .i64 D, .int .i64 V] 30)) := HK0.out.on hbc
  have HZ1 : Hid (v1.heap[w.heap.size + 1 + 1]? = some (.cells #[.int .i64 0, .int .i64 0, .int .i64 0, .int .i64 0, .int .i64 0, .int .i64 0, .int .i64 0, .int .i64 0] 27)) := row_on HZ0.out hbc
  go_wp2_with fail
  refine hJ.out _ _ ?_ (fun hHeld1 => ?_)
  · exact ku_conj HK1.out
  clear hJ J hbc HK0 HZ0
  try simp only [Act.put, List.setIfInBounds_toArray, List.set_cons_zero, List.set_cons_succ, List.getElem_toArray, List.getElem_cons_zero, List.getElem_cons_succ]
  refine wpAnyH_take (i := 2) (v := ?_) rfl (by kernel_rfl) (by kernel_rfl) (by kernel_rfl) (fun _ _ _ h => h) (Or.inl ⟨by rfl, ?_⟩) (by assumption) ?_
  rotate_left
  · intro w_ hSw; (try dsimp only at hSw); go_simp <;> with_reducible rfl
  try simp only [Act.put, List.setIfInBounds_toArray, List.set_cons_zero, List.set_cons_succ, List.getElem_toArray, List.getElem_cons_zero, List.getElem_cons_succ]
  refine wpAnyH_ready (rs := [4]) (by kernel_rfl) (by simp) ?_
  refine AllReadyH.cons rfl (fun J hJ => ?_) AllReadyH.nil
  go_simp
  go_at_call 58
  refine Calls.mono (KT.out _) ?_
  rintro e v2 ⟨rfl, hbc⟩
  have HK2 : Hid (KU w v2 (.cells #[.int .i64 2, .int .i64 n, .int .i64 d, .int .i64 r, .int .i64 l, .int .i64 b, .int .i64 g, .int .i64 k] 27) (.cells #[.int .i64 K, .int .i64 N, .int .i64 D, .int .i64 V] 30)) := HK1.out.on hbc
  have HZ2 : Hid (v2.heap[w.heap.size + 1 + 1]? = some (.cells #[.int .i64 0, .int .i64 0, .int .i64 0, .int .i64 0, .int .i64 0, .int .i64 0, .int .i64 0, .int .i64 0] 27)) := row_on HZ1.out hbc
  go_wp2_with fail
  refine hJ.out _ _ ?_ (fun hHeld2 => ?_)
  · exact ku_conj HK2.out
  clear hJ J hbc HK1 HZ1
  try simp only [Act.put, List.setIfInBounds_toArray, List.set_cons_zero, List.set_cons_succ, List.getElem_toArray, List.getElem_cons_zero, List.getElem_cons_succ]
  refine wpAnyH_take (i := 5) (v := ?_) rfl (by kernel_rfl) (by kernel_rfl) (by kernel_rfl) (fun _ _ _ h => h) (Or.inl ⟨by rfl, ?_⟩) (by assumption) ?_
  rotate_left
  · intro w_ hSw; (try dsimp only at hSw); go_simp <;> with_reducible rfl
  try simp only [Act.put, List.setIfInBounds_toArray, List.set_cons_zero, List.set_cons_succ, List.getElem_toArray, List.getElem_cons_zero, List.getElem_cons_succ]
  refine wpAnyH_take (i := 6) (v := ?_) rfl (by kernel_rfl) (by kernel_rfl) (by kernel_rfl) (fun _ _ _ h => h) (Or.inl ⟨by rfl, ?_⟩) (by assumption) ?_
  rotate_left
  · intro w_ hSw; (try dsimp only at hSw); go_simp <;> with_reducible rfl
  try simp only [Act.put, List.setIfInBounds_toArray, List.set_cons_zero, List.set_cons_succ, List.getElem_toArray, List.getElem_cons_zero, List.getElem_cons_succ]
  refine wpAnyH_ready (rs := [7]) (by kernel_rfl) (by simp) ?_
  refine AllReadyH.cons rfl (fun J hJ => ?_) AllReadyH.nil
  have kz := box8_cells HZ2.out
  go_simp
  have HPn : Hid (((((((((v2.setCell ⟨w.heap.size + 1 + 1, 0, none⟩ (.int .i64 z0)).setCell ⟨w.heap.size + 1 + 1, 1, none⟩ (.int .i64 z1)).setCell ⟨w.heap.size + 1 + 1, 2, none⟩ (.int .i64 z2)).setCell ⟨w.heap.size + 1 + 1, 3, none⟩ (.int .i64 z3)).setCell ⟨w.heap.size + 1 + 1, 4, none⟩ (.int .i64 z4)).setCell ⟨w.heap.size + 1 + 1, 5, none⟩ (.int .i64 z5)).setCell ⟨w.heap.size + 1 + 1, 6, none⟩ (.int .i64 z6)).setCell ⟨w.heap.size + 1 + 1, 7, none⟩ (.int .i64 z7)).heap[w.heap.size + 1 + 1]? = some (.cells #[.int .i64 z0, .int .i64 z1, .int .i64 z2, .int .i64 z3, .int .i64 z4, .int .i64 z5, .int .i64 z6, .int .i64 z7] 27)) := set8_row z0 z1 z2 z3 z4 z5 z6 z7 HZ2.out
  have HBn : Hid (Below w.heap.size w ((((((((v2.setCell ⟨w.heap.size + 1 + 1, 0, none⟩ (.int .i64 z0)).setCell ⟨w.heap.size + 1 + 1, 1, none⟩ (.int .i64 z1)).setCell ⟨w.heap.size + 1 + 1, 2, none⟩ (.int .i64 z2)).setCell ⟨w.heap.size + 1 + 1, 3, none⟩ (.int .i64 z3)).setCell ⟨w.heap.size + 1 + 1, 4, none⟩ (.int .i64 z4)).setCell ⟨w.heap.size + 1 + 1, 5, none⟩ (.int .i64 z5)).setCell ⟨w.heap.size + 1 + 1, 6, none⟩ (.int .i64 z6)).setCell ⟨w.heap.size + 1 + 1, 7, none⟩ (.int .i64 z7))) := set8_bel z0 z1 z2 z3 z4 z5 z6 z7 HK2.out.2.2 (le2 _)
  have HKn : Hid (KU w ((((((((v2.setCell ⟨w.heap.size + 1 + 1, 0, none⟩ (.int .i64 z0)).setCell ⟨w.heap.size + 1 + 1, 1, none⟩ (.int .i64 z1)).setCell ⟨w.heap.size + 1 + 1, 2, none⟩ (.int .i64 z2)).setCell ⟨w.heap.size + 1 + 1, 3, none⟩ (.int .i64 z3)).setCell ⟨w.heap.size + 1 + 1, 4, none⟩ (.int .i64 z4)).setCell ⟨w.heap.size + 1 + 1, 5, none⟩ (.int .i64 z5)).setCell ⟨w.heap.size + 1 + 1, 6, none⟩ (.int .i64 z6)).setCell ⟨w.heap.size + 1 + 1, 7, none⟩ (.int .i64 z7)) (.cells #[.int .i64 2, .int .i64 n, .int .i64 d, .int .i64 r, .int .i64 l, .int .i64 b, .int .i64 g, .int .i64 k] 27) (.cells #[.int .i64 K, .int .i64 N, .int .i64 D, .int .i64 V] 30)) := ⟨set8_far z0 z1 z2 z3 z4 z5 z6 z7 HK2.out.1 (by omega), set8_far z0 z1 z2 z3 z4 z5 z6 z7 HK2.out.2.1 (by omega), HBn.out⟩
  refine hJ.out _ _ (ku_conj HKn.out) (fun hHeld3 => ?_)
  clear hJ J kz HK2 HZ2
  try simp only [Act.put, List.setIfInBounds_toArray, List.set_cons_zero, List.set_cons_succ, List.getElem_toArray, List.getElem_cons_zero, List.getElem_cons_succ]
  generalize ((((((((v2.setCell ⟨w.heap.size + 1 + 1, 0, none⟩ (.int .i64 z0)).setCell ⟨w.heap.size + 1 + 1, 1, none⟩ (.int .i64 z1)).setCell ⟨w.heap.size + 1 + 1, 2, none⟩ (.int .i64 z2)).setCell ⟨w.heap.size + 1 + 1, 3, none⟩ (.int .i64 z3)).setCell ⟨w.heap.size + 1 + 1, 4, none⟩ (.int .i64 z4)).setCell ⟨w.heap.size + 1 + 1, 5, none⟩ (.int .i64 z5)).setCell ⟨w.heap.size + 1 + 1, 6, none⟩ (.int .i64 z6)).setCell ⟨w.heap.size + 1 + 1, 7, none⟩ (.int .i64 z7)) = w9 at *
  refine wpAnyH_take (i := 8) (v := ?_) rfl (by kernel_rfl) (by kernel_rfl) (by kernel_rfl) (fun _ _ _ h => h) (Or.inl ⟨by rfl, ?_⟩) (by assumption) ?_
  rotate_left
  · intro w_ hSw; (try dsimp only at hSw); go_simp <;> with_reducible rfl
  try simp only [Act.put, List.setIfInBounds_toArray, List.set_cons_zero, List.set_cons_succ, List.getElem_toArray, List.getElem_cons_zero, List.getElem_cons_succ]
  refine wpAnyH_done (by kernel_rfl) ?_ _
  clear hHeld hHeld1 hHeld2 hHeld3
  obtain ⟨⟨q0, q1, q2, q3, q4, q5, q6, q7⟩, _⟩ := box8_cells HPn.out
  go_wp2
  refine bodyPost_ret (v := .tuple #[.agg #[.int .i64 z0, .int .i64 z1, .int .i64 z2, .int .i64 z3, .int .i64 z4, .int .i64 z5, .int .i64 z6, .int .i64 z7], .bool y]) (by simp only [results, Try.results16]; simp [go_sem, q0, q1, q2, q3, q4, q5, q6, q7]) rfl ⟨rfl, HBn.out⟩
set_option maxRecDepth 100000 in
set_option maxHeartbeats 4000000 in
theorem tkI_3 (n d r l b g k K N D V z0 z1 z2 z3 z4 z5 z6 z7 : Int) {y : Bool} (KP : Hid (∀ w, Calls Try.prog 21 #[.agg #[.int .i64 3, .int .i64 n, .int .i64 d, .int .i64 r, .int .i64 l, .int .i64 b, .int .i64 g, .int .i64 k]] w fun e w' => e = .returned (.bool true) ∧ Below w.heap.size w w')) (KO : Hid (∀ w, Calls Try.prog 34 #[.agg #[.int .i64 K, .int .i64 N, .int .i64 D, .int .i64 V]] w fun e w' => e = .returned (.bool true) ∧ Below w.heap.size w w')) (KT : Hid (∀ w, Calls Try.prog 61 #[.agg #[.int .i64 3, .int .i64 n, .int .i64 d, .int .i64 r, .int .i64 l, .int .i64 b, .int .i64 g, .int .i64 k], .agg #[.int .i64 K, .int .i64 N, .int .i64 D, .int .i64 V]] w fun e w' => e = .returned (.tuple #[.agg #[.int .i64 z0, .int .i64 z1, .int .i64 z2, .int .i64 z3, .int .i64 z4, .int .i64 z5, .int .i64 z6, .int .i64 z7], .bool y]) ∧ Below w.heap.size w w')) (w : World) : Calls Try.prog 16 #[.agg #[.int .i64 3, .int .i64 n, .int .i64 d, .int .i64 r, .int .i64 l, .int .i64 b, .int .i64 g, .int .i64 k], .agg #[.int .i64 K, .int .i64 N, .int .i64 D, .int .i64 V]] w fun e w' => e = .returned (.tuple #[.agg #[.int .i64 z0, .int .i64 z1, .int .i64 z2, .int .i64 z3, .int .i64 z4, .int .i64 z5, .int .i64 z6, .int .i64 z7], .bool y]) ∧ Below w.heap.size w w' := by
  have HB0 : Hid (Below w.heap.size w (((w.alloc (.cells #[.int .i64 3, .int .i64 n, .int .i64 d, .int .i64 r, .int .i64 l, .int .i64 b, .int .i64 g, .int .i64 k] 27)).alloc (.cells #[.int .i64 K, .int .i64 N, .int .i64 D, .int .i64 V] 30)).alloc (.cells #[.int .i64 0, .int .i64 0, .int .i64 0, .int .i64 0, .int .i64 0, .int .i64 0, .int .i64 0, .int .i64 0] 27))) := bel_on (Nat.le_refl _) (bel_on (Nat.le_refl _) (alP _ _) (alP _ _)) (alP _ _)
  have HP0 : Hid ((((w.alloc (.cells #[.int .i64 3, .int .i64 n, .int .i64 d, .int .i64 r, .int .i64 l, .int .i64 b, .int .i64 g, .int .i64 k] 27)).alloc (.cells #[.int .i64 K, .int .i64 N, .int .i64 D, .int .i64 V] 30)).alloc (.cells #[.int .i64 0, .int .i64 0, .int .i64 0, .int .i64 0, .int .i64 0, .int .i64 0, .int .i64 0, .int .i64 0] 27)).heap[w.heap.size]? = some (.cells #[.int .i64 3, .int .i64 n, .int .i64 d, .int .i64 r, .int .i64 l, .int .i64 b, .int .i64 g, .int .i64 k] 27)) := row_on (row_on (heap_new w _) (alP _ _)) (alP _ _)
  have HO0 : Hid ((((w.alloc (.cells #[.int .i64 3, .int .i64 n, .int .i64 d, .int .i64 r, .int .i64 l, .int .i64 b, .int .i64 g, .int .i64 k] 27)).alloc (.cells #[.int .i64 K, .int .i64 N, .int .i64 D, .int .i64 V] 30)).alloc (.cells #[.int .i64 0, .int .i64 0, .int .i64 0, .int .i64 0, .int .i64 0, .int .i64 0, .int .i64 0, .int .i64 0] 27)).heap[w.heap.size + 1]? = some (.cells #[.int .i64 K, .int .i64 N, .int .i64 D, .int .i64 V] 30)) := row_on (al_at (w.alloc (.cells #[.int .i64 3, .int .i64 n, .int .i64 d, .int .i64 r, .int .i64 l, .int .i64 b, .int .i64 g, .int .i64 k] 27)) _ (by simp)) (alP _ _)
  have HZ0 : Hid ((((w.alloc (.cells #[.int .i64 3, .int .i64 n, .int .i64 d, .int .i64 r, .int .i64 l, .int .i64 b, .int .i64 g, .int .i64 k] 27)).alloc (.cells #[.int .i64 K, .int .i64 N, .int .i64 D, .int .i64 V] 30)).alloc (.cells #[.int .i64 0, .int .i64 0, .int .i64 0, .int .i64 0, .int .i64 0, .int .i64 0, .int .i64 0, .int .i64 0] 27)).heap[w.heap.size + 1 + 1]? = some (.cells #[.int .i64 0, .int .i64 0, .int .i64 0, .int .i64 0, .int .i64 0, .int .i64 0, .int .i64 0, .int .i64 0] 27)) := al_at ((w.alloc (.cells #[.int .i64 3, .int .i64 n, .int .i64 d, .int .i64 r, .int .i64 l, .int .i64 b, .int .i64 g, .int .i64 k] 27)).alloc (.cells #[.int .i64 K, .int .i64 N, .int .i64 D, .int .i64 V] 30)) _ (by simp)
  have p0 := box8_cells HP0.out
  have o0 := box4_cells HO0.out
  go_enter Try.func16, Try.ntmps16
  go_wp2_with fail
  refine Calls.mono (KP.out _) ?_
  rintro e w1 ⟨rfl, hb⟩
  have HB1 : Hid (Below w.heap.size w w1) := bel_on (Nat.le_refl _) HB0.out hb
  have HP1 : Hid (w1.heap[w.heap.size]? = some (.cells #[.int .i64 3, .int .i64 n, .int .i64 d, .int .i64 r, .int .i64 l, .int .i64 b, .int .i64 g, .int .i64 k] 27)) := row_on HP0.out hb
  have HO1 : Hid (w1.heap[w.heap.size + 1]? = some (.cells #[.int .i64 K, .int .i64 N, .int .i64 D, .int .i64 V] 30)) := row_on HO0.out hb
  have HZ1 : Hid (w1.heap[w.heap.size + 1 + 1]? = some (.cells #[.int .i64 0, .int .i64 0, .int .i64 0, .int .i64 0, .int .i64 0, .int .i64 0, .int .i64 0, .int .i64 0] 27)) := row_on HZ0.out hb
  have p1 := box8_cells HP1.out
  have o1 := box4_cells HO1.out
  clear hb HB0 HP0 HO0 HZ0 p0 o0
  go_wp2_with fail
  refine Calls.mono (KO.out _) ?_
  rintro e w2 ⟨rfl, hb⟩
  have HB2 : Hid (Below w.heap.size w w2) := bel_on (Nat.le_refl _) HB1.out hb
  have HP2 : Hid (w2.heap[w.heap.size]? = some (.cells #[.int .i64 3, .int .i64 n, .int .i64 d, .int .i64 r, .int .i64 l, .int .i64 b, .int .i64 g, .int .i64 k] 27)) := row_on HP1.out hb
  have HO2 : Hid (w2.heap[w.heap.size + 1]? = some (.cells #[.int .i64 K, .int .i64 N, .int .i64 D, .int .i64 V] 30)) := row_on HO1.out hb
  have HZ2 : Hid (w2.heap[w.heap.size + 1 + 1]? = some (.cells #[.int .i64 0, .int .i64 0, .int .i64 0, .int .i64 0, .int .i64 0, .int .i64 0, .int .i64 0, .int .i64 0] 27)) := row_on HZ1.out hb
  have p2 := box8_cells HP2.out
  have o2 := box4_cells HO2.out
  clear hb HB1 HP1 HO1 HZ1 p1 o1
  have HK0 : Hid (KU w w2.drew (.cells #[.int .i64 3, .int .i64 n, .int .i64 d, .int .i64 r, .int .i64 l, .int .i64 b, .int .i64 g, .int .i64 k] 27) (.cells #[.int .i64 K, .int .i64 N, .int .i64 D, .int .i64 V] 30)) := ⟨HP2.out, HO2.out, HB2.out.drew⟩
  have HZ0 : Hid (w2.drew.heap[w.heap.size + 1 + 1]? = some (.cells #[.int .i64 0, .int .i64 0, .int .i64 0, .int .i64 0, .int .i64 0, .int .i64 0, .int .i64 0, .int .i64 0] 27)) := HZ2.out
  go_wp2_with fail
  clear p2 o2 HB2 HP2 HO2 HZ2
  refine wp_region_held_drew (S := fun w' => w'.cell? ⟨w.heap.size, 0, none⟩ = some (.int .i64 3) ∧ w'.cell? ⟨w.heap.size, 1, none⟩ = some (.int .i64 n) ∧ w'.cell? ⟨w.heap.size, 2, none⟩ = some (.int .i64 d) ∧ w'.cell? ⟨w.heap.size, 3, none⟩ = some (.int .i64 r) ∧ w'.cell? ⟨w.heap.size, 4, none⟩ = some (.int .i64 l) ∧ w'.cell? ⟨w.heap.size, 5, none⟩ = some (.int .i64 b) ∧ w'.cell? ⟨w.heap.size, 6, none⟩ = some (.int .i64 g) ∧ w'.cell? ⟨w.heap.size, 7, none⟩ = some (.int .i64 k) ∧ w'.cell? ⟨w.heap.size + 1, 0, none⟩ = some (.int .i64 K) ∧ w'.cell? ⟨w.heap.size + 1, 1, none⟩ = some (.int .i64 N) ∧ w'.cell? ⟨w.heap.size + 1, 2, none⟩ = some (.int .i64 D) ∧ w'.cell? ⟨w.heap.size + 1, 3, none⟩ = some (.int .i64 V) ∧ KU w w' (.cells #[.int .i64 3, .int .i64 n, .int .i64 d, .int .i64 r, .int .i64 l, .int .i64 b, .int .i64 g, .int .i64 k] 27) (.cells #[.int .i64 K, .int .i64 N, .int .i64 D, .int .i64 V] 30)) (by kernel_rfl) (ku_conj HK0.out) (fun hHeld => ?_)
  refine wpAnyH_take (i := 0) (v := ?_) rfl (by kernel_rfl) (by kernel_rfl) (by kernel_rfl) (fun _ _ _ h => h) (Or.inl ⟨by rfl, ?_⟩) (by assumption) ?_
  rotate_left
  · intro w_ hSw; (try dsimp only at hSw); go_simp <;> with_reducible rfl
  try simp only [Act.put, List.setIfInBounds_toArray, List.set_cons_zero, List.set_cons_succ, List.getElem_toArray, List.getElem_cons_zero, List.getElem_cons_succ]
  refine wpAnyH_take (i := 3) (v := ?_) rfl (by kernel_rfl) (by kernel_rfl) (by kernel_rfl) (fun _ _ _ h => h) (Or.inl ⟨by rfl, ?_⟩) (by assumption) ?_
  rotate_left
  · intro w_ hSw; (try dsimp only at hSw); go_simp <;> with_reducible rfl
  try simp only [Act.put, List.setIfInBounds_toArray, List.set_cons_zero, List.set_cons_succ, List.getElem_toArray, List.getElem_cons_zero, List.getElem_cons_succ]
  have fl : ∀ w, (Instr.field 61 (.agg #[.func (.func 61) #[.agg #[.int .i64 3, .int .i64 n, .int .i64 d, .int .i64 r, .int .i64 l, .int .i64 b, .int .i64 g, .int .i64 k]] #[], .func (.func 62) #[.agg #[.int .i64 3, .int .i64 n, .int .i64 d, .int .i64 r, .int .i64 l, .int .i64 b, .int .i64 g, .int .i64 k]] #[], .func (.func 63) #[.agg #[.int .i64 3, .int .i64 n, .int .i64 d, .int .i64 r, .int .i64 l, .int .i64 b, .int .i64 g, .int .i64 k]] #[]]) 0).run Try.prog w = .ok (.func (.func 61) #[.agg #[.int .i64 3, .int .i64 n, .int .i64 d, .int .i64 r, .int .i64 l, .int .i64 b, .int .i64 g, .int .i64 k]] #[]) w := fun w => fld0 _ _ _ w
  refine wpAnyH_ready (rs := [1]) (by kernel_rfl) (by simp) ?_
  refine AllReadyH.cons rfl (fun J hJ => ?_) AllReadyH.nil
  go_simp
  go_at_call 35
  refine Calls.mono (stI_3 n d r l b g k _) ?_
  rintro e v1 ⟨rfl, hbc⟩
  have HK1 : Hid (KU w v1 (.cells #[.int .i64 3, .int .i64 n, .int .i64 d, .int .i64 r, .int .i64 l, .int .i64 b, .int .i64 g, .int .i64 k] 27) (.cells #[.int .i64 K, .int .i64 N, .int .i64 D, .int .i64 V] 30)) := HK0.out.on hbc
  have HZ1 : Hid (v1.heap[w.heap.size + 1 + 1]? = some (.cells #[.int .i64 0, .int .i64 0, .int .i64 0, .int .i64 0, .int .i64 0, .int .i64 0, .int .i64 0, .int .i64 0] 27)) := row_on HZ0.out hbc
  go_wp2_with fail
  refine hJ.out _ _ ?_ (fun hHeld1 => ?_)
  · exact ku_conj HK1.out
  clear hJ J hbc HK0 HZ0
  try simp only [Act.put, List.setIfInBounds_toArray, List.set_cons_zero, List.set_cons_succ, List.getElem_toArray, List.getElem_cons_zero, List.getElem_cons_succ]
  refine wpAnyH_take (i := 2) (v := ?_) rfl (by kernel_rfl) (by kernel_rfl) (by kernel_rfl) (fun _ _ _ h => h) (Or.inl ⟨by rfl, ?_⟩) (by assumption) ?_
  rotate_left
  · intro w_ hSw; (try dsimp only at hSw); go_simp <;> with_reducible rfl
  try simp only [Act.put, List.setIfInBounds_toArray, List.set_cons_zero, List.set_cons_succ, List.getElem_toArray, List.getElem_cons_zero, List.getElem_cons_succ]
  refine wpAnyH_ready (rs := [4]) (by kernel_rfl) (by simp) ?_
  refine AllReadyH.cons rfl (fun J hJ => ?_) AllReadyH.nil
  go_simp
  go_at_call 61
  refine Calls.mono (KT.out _) ?_
  rintro e v2 ⟨rfl, hbc⟩
  have HK2 : Hid (KU w v2 (.cells #[.int .i64 3, .int .i64 n, .int .i64 d, .int .i64 r, .int .i64 l, .int .i64 b, .int .i64 g, .int .i64 k] 27) (.cells #[.int .i64 K, .int .i64 N, .int .i64 D, .int .i64 V] 30)) := HK1.out.on hbc
  have HZ2 : Hid (v2.heap[w.heap.size + 1 + 1]? = some (.cells #[.int .i64 0, .int .i64 0, .int .i64 0, .int .i64 0, .int .i64 0, .int .i64 0, .int .i64 0, .int .i64 0] 27)) := row_on HZ1.out hbc
  go_wp2_with fail
  refine hJ.out _ _ ?_ (fun hHeld2 => ?_)
  · exact ku_conj HK2.out
  clear hJ J hbc HK1 HZ1
  try simp only [Act.put, List.setIfInBounds_toArray, List.set_cons_zero, List.set_cons_succ, List.getElem_toArray, List.getElem_cons_zero, List.getElem_cons_succ]
  refine wpAnyH_take (i := 5) (v := ?_) rfl (by kernel_rfl) (by kernel_rfl) (by kernel_rfl) (fun _ _ _ h => h) (Or.inl ⟨by rfl, ?_⟩) (by assumption) ?_
  rotate_left
  · intro w_ hSw; (try dsimp only at hSw); go_simp <;> with_reducible rfl
  try simp only [Act.put, List.setIfInBounds_toArray, List.set_cons_zero, List.set_cons_succ, List.getElem_toArray, List.getElem_cons_zero, List.getElem_cons_succ]
  refine wpAnyH_take (i := 6) (v := ?_) rfl (by kernel_rfl) (by kernel_rfl) (by kernel_rfl) (fun _ _ _ h => h) (Or.inl ⟨by rfl, ?_⟩) (by assumption) ?_
  rotate_left
  · intro w_ hSw; (try dsimp only at hSw); go_simp <;> with_reducible rfl
  try simp only [Act.put, List.setIfInBounds_toArray, List.set_cons_zero, List.set_cons_succ, List.getElem_toArray, List.getElem_cons_zero, List.getElem_cons_succ]
  refine wpAnyH_ready (rs := [7]) (by kernel_rfl) (by simp) ?_
  refine AllReadyH.cons rfl (fun J hJ => ?_) AllReadyH.nil
  have kz := box8_cells HZ2.out
  go_simp
  have HPn : Hid (((((((((v2.setCell ⟨w.heap.size + 1 + 1, 0, none⟩ (.int .i64 z0)).setCell ⟨w.heap.size + 1 + 1, 1, none⟩ (.int .i64 z1)).setCell ⟨w.heap.size + 1 + 1, 2, none⟩ (.int .i64 z2)).setCell ⟨w.heap.size + 1 + 1, 3, none⟩ (.int .i64 z3)).setCell ⟨w.heap.size + 1 + 1, 4, none⟩ (.int .i64 z4)).setCell ⟨w.heap.size + 1 + 1, 5, none⟩ (.int .i64 z5)).setCell ⟨w.heap.size + 1 + 1, 6, none⟩ (.int .i64 z6)).setCell ⟨w.heap.size + 1 + 1, 7, none⟩ (.int .i64 z7)).heap[w.heap.size + 1 + 1]? = some (.cells #[.int .i64 z0, .int .i64 z1, .int .i64 z2, .int .i64 z3, .int .i64 z4, .int .i64 z5, .int .i64 z6, .int .i64 z7] 27)) := set8_row z0 z1 z2 z3 z4 z5 z6 z7 HZ2.out
  have HBn : Hid (Below w.heap.size w ((((((((v2.setCell ⟨w.heap.size + 1 + 1, 0, none⟩ (.int .i64 z0)).setCell ⟨w.heap.size + 1 + 1, 1, none⟩ (.int .i64 z1)).setCell ⟨w.heap.size + 1 + 1, 2, none⟩ (.int .i64 z2)).setCell ⟨w.heap.size + 1 + 1, 3, none⟩ (.int .i64 z3)).setCell ⟨w.heap.size + 1 + 1, 4, none⟩ (.int .i64 z4)).setCell ⟨w.heap.size + 1 + 1, 5, none⟩ (.int .i64 z5)).setCell ⟨w.heap.size + 1 + 1, 6, none⟩ (.int .i64 z6)).setCell ⟨w.heap.size + 1 + 1, 7, none⟩ (.int .i64 z7))) := set8_bel z0 z1 z2 z3 z4 z5 z6 z7 HK2.out.2.2 (le2 _)
  have HKn : Hid (KU w ((((((((v2.setCell ⟨w.heap.size + 1 + 1, 0, none⟩ (.int .i64 z0)).setCell ⟨w.heap.size + 1 + 1, 1, none⟩ (.int .i64 z1)).setCell ⟨w.heap.size + 1 + 1, 2, none⟩ (.int .i64 z2)).setCell ⟨w.heap.size + 1 + 1, 3, none⟩ (.int .i64 z3)).setCell ⟨w.heap.size + 1 + 1, 4, none⟩ (.int .i64 z4)).setCell ⟨w.heap.size + 1 + 1, 5, none⟩ (.int .i64 z5)).setCell ⟨w.heap.size + 1 + 1, 6, none⟩ (.int .i64 z6)).setCell ⟨w.heap.size + 1 + 1, 7, none⟩ (.int .i64 z7)) (.cells #[.int .i64 3, .int .i64 n, .int .i64 d, .int .i64 r, .int .i64 l, .int .i64 b, .int .i64 g, .int .i64 k] 27) (.cells #[.int .i64 K, .int .i64 N, .int .i64 D, .int .i64 V] 30)) := ⟨set8_far z0 z1 z2 z3 z4 z5 z6 z7 HK2.out.1 (by omega), set8_far z0 z1 z2 z3 z4 z5 z6 z7 HK2.out.2.1 (by omega), HBn.out⟩
  refine hJ.out _ _ (ku_conj HKn.out) (fun hHeld3 => ?_)
  clear hJ J kz HK2 HZ2
  try simp only [Act.put, List.setIfInBounds_toArray, List.set_cons_zero, List.set_cons_succ, List.getElem_toArray, List.getElem_cons_zero, List.getElem_cons_succ]
  generalize ((((((((v2.setCell ⟨w.heap.size + 1 + 1, 0, none⟩ (.int .i64 z0)).setCell ⟨w.heap.size + 1 + 1, 1, none⟩ (.int .i64 z1)).setCell ⟨w.heap.size + 1 + 1, 2, none⟩ (.int .i64 z2)).setCell ⟨w.heap.size + 1 + 1, 3, none⟩ (.int .i64 z3)).setCell ⟨w.heap.size + 1 + 1, 4, none⟩ (.int .i64 z4)).setCell ⟨w.heap.size + 1 + 1, 5, none⟩ (.int .i64 z5)).setCell ⟨w.heap.size + 1 + 1, 6, none⟩ (.int .i64 z6)).setCell ⟨w.heap.size + 1 + 1, 7, none⟩ (.int .i64 z7)) = w9 at *
  refine wpAnyH_take (i := 8) (v := ?_) rfl (by kernel_rfl) (by kernel_rfl) (by kernel_rfl) (fun _ _ _ h => h) (Or.inl ⟨by rfl, ?_⟩) (by assumption) ?_
  rotate_left
  · intro w_ hSw; (try dsimp only at hSw); go_simp <;> with_reducible rfl
  try simp only [Act.put, List.setIfInBounds_toArray, List.set_cons_zero, List.set_cons_succ, List.getElem_toArray, List.getElem_cons_zero, List.getElem_cons_succ]
  refine wpAnyH_done (by kernel_rfl) ?_ _
  clear hHeld hHeld1 hHeld2 hHeld3
  obtain ⟨⟨q0, q1, q2, q3, q4, q5, q6, q7⟩, _⟩ := box8_cells HPn.out
  go_wp2
  refine bodyPost_ret (v := .tuple #[.agg #[.int .i64 z0, .int .i64 z1, .int .i64 z2, .int .i64 z3, .int .i64 z4, .int .i64 z5, .int .i64 z6, .int .i64 z7], .bool y]) (by simp only [results, Try.results16]; simp [go_sem, q0, q1, q2, q3, q4, q5, q6, q7]) rfl ⟨rfl, HBn.out⟩
set_option maxRecDepth 100000 in
set_option maxHeartbeats 2000000 in
theorem wnI_no (s n d r l b g k : Int) (KP : Hid (∀ w, Calls Try.prog 21 #[.agg #[.int .i64 s, .int .i64 n, .int .i64 d, .int .i64 r, .int .i64 l, .int .i64 b, .int .i64 g, .int .i64 k]] w fun e w' => e = .returned (.bool false) ∧ Below w.heap.size w w')) (w : World) : Calls Try.prog 22 #[.agg #[.int .i64 s, .int .i64 n, .int .i64 d, .int .i64 r, .int .i64 l, .int .i64 b, .int .i64 g, .int .i64 k]] w fun e w' => e = .returned (.int .i64 0) ∧ Below w.heap.size w w' := by
  have HB0 : Hid (Below w.heap.size w (w.alloc (.cells #[.int .i64 s, .int .i64 n, .int .i64 d, .int .i64 r, .int .i64 l, .int .i64 b, .int .i64 g, .int .i64 k] 27))) := alP _ _
  have HP0 : Hid ((w.alloc (.cells #[.int .i64 s, .int .i64 n, .int .i64 d, .int .i64 r, .int .i64 l, .int .i64 b, .int .i64 g, .int .i64 k] 27)).heap[w.heap.size]? = some (.cells #[.int .i64 s, .int .i64 n, .int .i64 d, .int .i64 r, .int .i64 l, .int .i64 b, .int .i64 g, .int .i64 k] 27)) := heap_new w _
  have p0 := box8_cells HP0.out
  go_enter Try.func22, Try.ntmps22
  go_wp2_with fail
  refine Calls.mono (KP.out _) ?_
  rintro e w1 ⟨rfl, hb⟩
  have HB1 : Hid (Below w.heap.size w w1) := bel_on (Nat.le_refl _) HB0.out hb
  have HP1 : Hid (w1.heap[w.heap.size]? = some (.cells #[.int .i64 s, .int .i64 n, .int .i64 d, .int .i64 r, .int .i64 l, .int .i64 b, .int .i64 g, .int .i64 k] 27)) := row_on HP0.out hb
  have p1 := box8_cells HP1.out
  clear hb HB0 HP0 p0
  go_wp2
  go_ret
  exact ⟨rfl, HB1.out⟩
set_option maxRecDepth 100000 in
set_option maxHeartbeats 2000000 in
theorem wnI_0 (n d r l b g k z : Int) (KP : Hid (∀ w, Calls Try.prog 21 #[.agg #[.int .i64 0, .int .i64 n, .int .i64 d, .int .i64 r, .int .i64 l, .int .i64 b, .int .i64 g, .int .i64 k]] w fun e w' => e = .returned (.bool true) ∧ Below w.heap.size w w')) (KW : Hid (∀ w, Calls Try.prog 62 #[.agg #[.int .i64 0, .int .i64 n, .int .i64 d, .int .i64 r, .int .i64 l, .int .i64 b, .int .i64 g, .int .i64 k]] w fun e w' => e = .returned (.int .i64 z) ∧ Below w.heap.size w w')) (w : World) : Calls Try.prog 22 #[.agg #[.int .i64 0, .int .i64 n, .int .i64 d, .int .i64 r, .int .i64 l, .int .i64 b, .int .i64 g, .int .i64 k]] w fun e w' => e = .returned (.int .i64 z) ∧ Below w.heap.size w w' := by
  have HB0 : Hid (Below w.heap.size w (w.alloc (.cells #[.int .i64 0, .int .i64 n, .int .i64 d, .int .i64 r, .int .i64 l, .int .i64 b, .int .i64 g, .int .i64 k] 27))) := alP _ _
  have HP0 : Hid ((w.alloc (.cells #[.int .i64 0, .int .i64 n, .int .i64 d, .int .i64 r, .int .i64 l, .int .i64 b, .int .i64 g, .int .i64 k] 27)).heap[w.heap.size]? = some (.cells #[.int .i64 0, .int .i64 n, .int .i64 d, .int .i64 r, .int .i64 l, .int .i64 b, .int .i64 g, .int .i64 k] 27)) := heap_new w _
  have p0 := box8_cells HP0.out
  go_enter Try.func22, Try.ntmps22
  go_wp2_with fail
  refine Calls.mono (KP.out _) ?_
  rintro e w1 ⟨rfl, hb⟩
  have HB1 : Hid (Below w.heap.size w w1) := bel_on (Nat.le_refl _) HB0.out hb
  have HP1 : Hid (w1.heap[w.heap.size]? = some (.cells #[.int .i64 0, .int .i64 n, .int .i64 d, .int .i64 r, .int .i64 l, .int .i64 b, .int .i64 g, .int .i64 k] 27)) := row_on HP0.out hb
  have p1 := box8_cells HP1.out
  clear hb HB0 HP0 p0
  have fl : ∀ w, (Instr.field 61 (.agg #[.func (.func 64) #[.agg #[.int .i64 0, .int .i64 n, .int .i64 d, .int .i64 r, .int .i64 l, .int .i64 b, .int .i64 g, .int .i64 k]] #[], .func (.func 62) #[.agg #[.int .i64 0, .int .i64 n, .int .i64 d, .int .i64 r, .int .i64 l, .int .i64 b, .int .i64 g, .int .i64 k]] #[], .func (.func 63) #[.agg #[.int .i64 0, .int .i64 n, .int .i64 d, .int .i64 r, .int .i64 l, .int .i64 b, .int .i64 g, .int .i64 k]] #[]]) 1).run Try.prog w = .ok (.func (.func 62) #[.agg #[.int .i64 0, .int .i64 n, .int .i64 d, .int .i64 r, .int .i64 l, .int .i64 b, .int .i64 g, .int .i64 k]] #[]) w := fun w => fld1 _ _ _ w
  go_wp2_with fail
  refine Calls.mono (stI_0 n d r l b g k _) ?_
  rintro e w2 ⟨rfl, hb⟩
  have HB2 : Hid (Below w.heap.size w w2) := bel_on (Nat.le_refl _) HB1.out hb
  have HP2 : Hid (w2.heap[w.heap.size]? = some (.cells #[.int .i64 0, .int .i64 n, .int .i64 d, .int .i64 r, .int .i64 l, .int .i64 b, .int .i64 g, .int .i64 k] 27)) := row_on HP1.out hb
  have p2 := box8_cells HP2.out
  clear hb HB1 HP1 p1
  go_wp2_with fail
  refine Calls.mono (KW.out _) ?_
  rintro e w3 ⟨rfl, hb⟩
  have HB3 : Hid (Below w.heap.size w w3) := bel_on (Nat.le_refl _) HB2.out hb
  have HP3 : Hid (w3.heap[w.heap.size]? = some (.cells #[.int .i64 0, .int .i64 n, .int .i64 d, .int .i64 r, .int .i64 l, .int .i64 b, .int .i64 g, .int .i64 k] 27)) := row_on HP2.out hb
  have p3 := box8_cells HP3.out
  clear hb HB2 HP2 p2
  go_wp2
  go_ret
  exact ⟨rfl, HB3.out⟩
set_option maxRecDepth 100000 in
set_option maxHeartbeats 2000000 in
theorem wnI_1 (n d r l b g k z : Int) (KP : Hid (∀ w, Calls Try.prog 21 #[.agg #[.int .i64 1, .int .i64 n, .int .i64 d, .int .i64 r, .int .i64 l, .int .i64 b, .int .i64 g, .int .i64 k]] w fun e w' => e = .returned (.bool true) ∧ Below w.heap.size w w')) (KW : Hid (∀ w, Calls Try.prog 56 #[.agg #[.int .i64 1, .int .i64 n, .int .i64 d, .int .i64 r, .int .i64 l, .int .i64 b, .int .i64 g, .int .i64 k]] w fun e w' => e = .returned (.int .i64 z) ∧ Below w.heap.size w w')) (w : World) : Calls Try.prog 22 #[.agg #[.int .i64 1, .int .i64 n, .int .i64 d, .int .i64 r, .int .i64 l, .int .i64 b, .int .i64 g, .int .i64 k]] w fun e w' => e = .returned (.int .i64 z) ∧ Below w.heap.size w w' := by
  have HB0 : Hid (Below w.heap.size w (w.alloc (.cells #[.int .i64 1, .int .i64 n, .int .i64 d, .int .i64 r, .int .i64 l, .int .i64 b, .int .i64 g, .int .i64 k] 27))) := alP _ _
  have HP0 : Hid ((w.alloc (.cells #[.int .i64 1, .int .i64 n, .int .i64 d, .int .i64 r, .int .i64 l, .int .i64 b, .int .i64 g, .int .i64 k] 27)).heap[w.heap.size]? = some (.cells #[.int .i64 1, .int .i64 n, .int .i64 d, .int .i64 r, .int .i64 l, .int .i64 b, .int .i64 g, .int .i64 k] 27)) := heap_new w _
  have p0 := box8_cells HP0.out
  go_enter Try.func22, Try.ntmps22
  go_wp2_with fail
  refine Calls.mono (KP.out _) ?_
  rintro e w1 ⟨rfl, hb⟩
  have HB1 : Hid (Below w.heap.size w w1) := bel_on (Nat.le_refl _) HB0.out hb
  have HP1 : Hid (w1.heap[w.heap.size]? = some (.cells #[.int .i64 1, .int .i64 n, .int .i64 d, .int .i64 r, .int .i64 l, .int .i64 b, .int .i64 g, .int .i64 k] 27)) := row_on HP0.out hb
  have p1 := box8_cells HP1.out
  clear hb HB0 HP0 p0
  have fl : ∀ w, (Instr.field 61 (.agg #[.func (.func 55) #[.agg #[.int .i64 1, .int .i64 n, .int .i64 d, .int .i64 r, .int .i64 l, .int .i64 b, .int .i64 g, .int .i64 k]] #[], .func (.func 56) #[.agg #[.int .i64 1, .int .i64 n, .int .i64 d, .int .i64 r, .int .i64 l, .int .i64 b, .int .i64 g, .int .i64 k]] #[], .func (.func 57) #[.agg #[.int .i64 1, .int .i64 n, .int .i64 d, .int .i64 r, .int .i64 l, .int .i64 b, .int .i64 g, .int .i64 k]] #[]]) 1).run Try.prog w = .ok (.func (.func 56) #[.agg #[.int .i64 1, .int .i64 n, .int .i64 d, .int .i64 r, .int .i64 l, .int .i64 b, .int .i64 g, .int .i64 k]] #[]) w := fun w => fld1 _ _ _ w
  go_wp2_with fail
  refine Calls.mono (stI_1 n d r l b g k _) ?_
  rintro e w2 ⟨rfl, hb⟩
  have HB2 : Hid (Below w.heap.size w w2) := bel_on (Nat.le_refl _) HB1.out hb
  have HP2 : Hid (w2.heap[w.heap.size]? = some (.cells #[.int .i64 1, .int .i64 n, .int .i64 d, .int .i64 r, .int .i64 l, .int .i64 b, .int .i64 g, .int .i64 k] 27)) := row_on HP1.out hb
  have p2 := box8_cells HP2.out
  clear hb HB1 HP1 p1
  go_wp2_with fail
  refine Calls.mono (KW.out _) ?_
  rintro e w3 ⟨rfl, hb⟩
  have HB3 : Hid (Below w.heap.size w w3) := bel_on (Nat.le_refl _) HB2.out hb
  have HP3 : Hid (w3.heap[w.heap.size]? = some (.cells #[.int .i64 1, .int .i64 n, .int .i64 d, .int .i64 r, .int .i64 l, .int .i64 b, .int .i64 g, .int .i64 k] 27)) := row_on HP2.out hb
  have p3 := box8_cells HP3.out
  clear hb HB2 HP2 p2
  go_wp2
  go_ret
  exact ⟨rfl, HB3.out⟩
set_option maxRecDepth 100000 in
set_option maxHeartbeats 2000000 in
theorem wnI_2 (n d r l b g k z : Int) (KP : Hid (∀ w, Calls Try.prog 21 #[.agg #[.int .i64 2, .int .i64 n, .int .i64 d, .int .i64 r, .int .i64 l, .int .i64 b, .int .i64 g, .int .i64 k]] w fun e w' => e = .returned (.bool true) ∧ Below w.heap.size w w')) (KW : Hid (∀ w, Calls Try.prog 59 #[.agg #[.int .i64 2, .int .i64 n, .int .i64 d, .int .i64 r, .int .i64 l, .int .i64 b, .int .i64 g, .int .i64 k]] w fun e w' => e = .returned (.int .i64 z) ∧ Below w.heap.size w w')) (w : World) : Calls Try.prog 22 #[.agg #[.int .i64 2, .int .i64 n, .int .i64 d, .int .i64 r, .int .i64 l, .int .i64 b, .int .i64 g, .int .i64 k]] w fun e w' => e = .returned (.int .i64 z) ∧ Below w.heap.size w w' := by
  have HB0 : Hid (Below w.heap.size w (w.alloc (.cells #[.int .i64 2, .int .i64 n, .int .i64 d, .int .i64 r, .int .i64 l, .int .i64 b, .int .i64 g, .int .i64 k] 27))) := alP _ _
  have HP0 : Hid ((w.alloc (.cells #[.int .i64 2, .int .i64 n, .int .i64 d, .int .i64 r, .int .i64 l, .int .i64 b, .int .i64 g, .int .i64 k] 27)).heap[w.heap.size]? = some (.cells #[.int .i64 2, .int .i64 n, .int .i64 d, .int .i64 r, .int .i64 l, .int .i64 b, .int .i64 g, .int .i64 k] 27)) := heap_new w _
  have p0 := box8_cells HP0.out
  go_enter Try.func22, Try.ntmps22
  go_wp2_with fail
  refine Calls.mono (KP.out _) ?_
  rintro e w1 ⟨rfl, hb⟩
  have HB1 : Hid (Below w.heap.size w w1) := bel_on (Nat.le_refl _) HB0.out hb
  have HP1 : Hid (w1.heap[w.heap.size]? = some (.cells #[.int .i64 2, .int .i64 n, .int .i64 d, .int .i64 r, .int .i64 l, .int .i64 b, .int .i64 g, .int .i64 k] 27)) := row_on HP0.out hb
  have p1 := box8_cells HP1.out
  clear hb HB0 HP0 p0
  have fl : ∀ w, (Instr.field 61 (.agg #[.func (.func 58) #[.agg #[.int .i64 2, .int .i64 n, .int .i64 d, .int .i64 r, .int .i64 l, .int .i64 b, .int .i64 g, .int .i64 k]] #[], .func (.func 59) #[.agg #[.int .i64 2, .int .i64 n, .int .i64 d, .int .i64 r, .int .i64 l, .int .i64 b, .int .i64 g, .int .i64 k]] #[], .func (.func 60) #[.agg #[.int .i64 2, .int .i64 n, .int .i64 d, .int .i64 r, .int .i64 l, .int .i64 b, .int .i64 g, .int .i64 k]] #[]]) 1).run Try.prog w = .ok (.func (.func 59) #[.agg #[.int .i64 2, .int .i64 n, .int .i64 d, .int .i64 r, .int .i64 l, .int .i64 b, .int .i64 g, .int .i64 k]] #[]) w := fun w => fld1 _ _ _ w
  go_wp2_with fail
  refine Calls.mono (stI_2 n d r l b g k _) ?_
  rintro e w2 ⟨rfl, hb⟩
  have HB2 : Hid (Below w.heap.size w w2) := bel_on (Nat.le_refl _) HB1.out hb
  have HP2 : Hid (w2.heap[w.heap.size]? = some (.cells #[.int .i64 2, .int .i64 n, .int .i64 d, .int .i64 r, .int .i64 l, .int .i64 b, .int .i64 g, .int .i64 k] 27)) := row_on HP1.out hb
  have p2 := box8_cells HP2.out
  clear hb HB1 HP1 p1
  go_wp2_with fail
  refine Calls.mono (KW.out _) ?_
  rintro e w3 ⟨rfl, hb⟩
  have HB3 : Hid (Below w.heap.size w w3) := bel_on (Nat.le_refl _) HB2.out hb
  have HP3 : Hid (w3.heap[w.heap.size]? = some (.cells #[.int .i64 2, .int .i64 n, .int .i64 d, .int .i64 r, .int .i64 l, .int .i64 b, .int .i64 g, .int .i64 k] 27)) := row_on HP2.out hb
  have p3 := box8_cells HP3.out
  clear hb HB2 HP2 p2
  go_wp2
  go_ret
  exact ⟨rfl, HB3.out⟩
set_option maxRecDepth 100000 in
set_option maxHeartbeats 2000000 in
theorem wnI_3 (n d r l b g k z : Int) (KP : Hid (∀ w, Calls Try.prog 21 #[.agg #[.int .i64 3, .int .i64 n, .int .i64 d, .int .i64 r, .int .i64 l, .int .i64 b, .int .i64 g, .int .i64 k]] w fun e w' => e = .returned (.bool true) ∧ Below w.heap.size w w')) (KW : Hid (∀ w, Calls Try.prog 62 #[.agg #[.int .i64 3, .int .i64 n, .int .i64 d, .int .i64 r, .int .i64 l, .int .i64 b, .int .i64 g, .int .i64 k]] w fun e w' => e = .returned (.int .i64 z) ∧ Below w.heap.size w w')) (w : World) : Calls Try.prog 22 #[.agg #[.int .i64 3, .int .i64 n, .int .i64 d, .int .i64 r, .int .i64 l, .int .i64 b, .int .i64 g, .int .i64 k]] w fun e w' => e = .returned (.int .i64 z) ∧ Below w.heap.size w w' := by
  have HB0 : Hid (Below w.heap.size w (w.alloc (.cells #[.int .i64 3, .int .i64 n, .int .i64 d, .int .i64 r, .int .i64 l, .int .i64 b, .int .i64 g, .int .i64 k] 27))) := alP _ _
  have HP0 : Hid ((w.alloc (.cells #[.int .i64 3, .int .i64 n, .int .i64 d, .int .i64 r, .int .i64 l, .int .i64 b, .int .i64 g, .int .i64 k] 27)).heap[w.heap.size]? = some (.cells #[.int .i64 3, .int .i64 n, .int .i64 d, .int .i64 r, .int .i64 l, .int .i64 b, .int .i64 g, .int .i64 k] 27)) := heap_new w _
  have p0 := box8_cells HP0.out
  go_enter Try.func22, Try.ntmps22
  go_wp2_with fail
  refine Calls.mono (KP.out _) ?_
  rintro e w1 ⟨rfl, hb⟩
  have HB1 : Hid (Below w.heap.size w w1) := bel_on (Nat.le_refl _) HB0.out hb
  have HP1 : Hid (w1.heap[w.heap.size]? = some (.cells #[.int .i64 3, .int .i64 n, .int .i64 d, .int .i64 r, .int .i64 l, .int .i64 b, .int .i64 g, .int .i64 k] 27)) := row_on HP0.out hb
  have p1 := box8_cells HP1.out
  clear hb HB0 HP0 p0
  have fl : ∀ w, (Instr.field 61 (.agg #[.func (.func 61) #[.agg #[.int .i64 3, .int .i64 n, .int .i64 d, .int .i64 r, .int .i64 l, .int .i64 b, .int .i64 g, .int .i64 k]] #[], .func (.func 62) #[.agg #[.int .i64 3, .int .i64 n, .int .i64 d, .int .i64 r, .int .i64 l, .int .i64 b, .int .i64 g, .int .i64 k]] #[], .func (.func 63) #[.agg #[.int .i64 3, .int .i64 n, .int .i64 d, .int .i64 r, .int .i64 l, .int .i64 b, .int .i64 g, .int .i64 k]] #[]]) 1).run Try.prog w = .ok (.func (.func 62) #[.agg #[.int .i64 3, .int .i64 n, .int .i64 d, .int .i64 r, .int .i64 l, .int .i64 b, .int .i64 g, .int .i64 k]] #[]) w := fun w => fld1 _ _ _ w
  go_wp2_with fail
  refine Calls.mono (stI_3 n d r l b g k _) ?_
  rintro e w2 ⟨rfl, hb⟩
  have HB2 : Hid (Below w.heap.size w w2) := bel_on (Nat.le_refl _) HB1.out hb
  have HP2 : Hid (w2.heap[w.heap.size]? = some (.cells #[.int .i64 3, .int .i64 n, .int .i64 d, .int .i64 r, .int .i64 l, .int .i64 b, .int .i64 g, .int .i64 k] 27)) := row_on HP1.out hb
  have p2 := box8_cells HP2.out
  clear hb HB1 HP1 p1
  go_wp2_with fail
  refine Calls.mono (KW.out _) ?_
  rintro e w3 ⟨rfl, hb⟩
  have HB3 : Hid (Below w.heap.size w w3) := bel_on (Nat.le_refl _) HB2.out hb
  have HP3 : Hid (w3.heap[w.heap.size]? = some (.cells #[.int .i64 3, .int .i64 n, .int .i64 d, .int .i64 r, .int .i64 l, .int .i64 b, .int .i64 g, .int .i64 k] 27)) := row_on HP2.out hb
  have p3 := box8_cells HP3.out
  clear hb HB2 HP2 p2
  go_wp2
  go_ret
  exact ⟨rfl, HB3.out⟩
set_option maxRecDepth 100000 in
set_option maxHeartbeats 4000000 in
theorem gvI_no (s n d r l b g k a : Int) (KP : Hid (∀ w, Calls Try.prog 21 #[.agg #[.int .i64 s, .int .i64 n, .int .i64 d, .int .i64 r, .int .i64 l, .int .i64 b, .int .i64 g, .int .i64 k]] w fun e w' => e = .returned (.bool false) ∧ Below w.heap.size w w')) (w : World) : Calls Try.prog 19 #[.agg #[.int .i64 s, .int .i64 n, .int .i64 d, .int .i64 r, .int .i64 l, .int .i64 b, .int .i64 g, .int .i64 k], .int .i64 a] w fun e w' => e = .returned (.agg #[.int .i64 s, .int .i64 n, .int .i64 d, .int .i64 r, .int .i64 l, .int .i64 b, .int .i64 g, .int .i64 k]) ∧ Below w.heap.size w w' := by
  have HB0 : Hid (Below w.heap.size w ((w.alloc (.cells #[.int .i64 s, .int .i64 n, .int .i64 d, .int .i64 r, .int .i64 l, .int .i64 b, .int .i64 g, .int .i64 k] 27)).alloc (.cells #[.int .i64 0, .int .i64 0, .int .i64 0, .int .i64 0, .int .i64 0, .int .i64 0, .int .i64 0, .int .i64 0] 27))) := bel_on (Nat.le_refl _) (alP _ _) (alP _ _)
  have HP0 : Hid (((w.alloc (.cells #[.int .i64 s, .int .i64 n, .int .i64 d, .int .i64 r, .int .i64 l, .int .i64 b, .int .i64 g, .int .i64 k] 27)).alloc (.cells #[.int .i64 0, .int .i64 0, .int .i64 0, .int .i64 0, .int .i64 0, .int .i64 0, .int .i64 0, .int .i64 0] 27)).heap[w.heap.size]? = some (.cells #[.int .i64 s, .int .i64 n, .int .i64 d, .int .i64 r, .int .i64 l, .int .i64 b, .int .i64 g, .int .i64 k] 27)) := row_on (heap_new w _) (alP _ _)
  have HZ0 : Hid (((w.alloc (.cells #[.int .i64 s, .int .i64 n, .int .i64 d, .int .i64 r, .int .i64 l, .int .i64 b, .int .i64 g, .int .i64 k] 27)).alloc (.cells #[.int .i64 0, .int .i64 0, .int .i64 0, .int .i64 0, .int .i64 0, .int .i64 0, .int .i64 0, .int .i64 0] 27)).heap[w.heap.size + 1]? = some (.cells #[.int .i64 0, .int .i64 0, .int .i64 0, .int .i64 0, .int .i64 0, .int .i64 0, .int .i64 0, .int .i64 0] 27)) := al_at (w.alloc (.cells #[.int .i64 s, .int .i64 n, .int .i64 d, .int .i64 r, .int .i64 l, .int .i64 b, .int .i64 g, .int .i64 k] 27)) _ (by simp)
  have p0 := box8_cells HP0.out
  go_enter Try.func19, Try.ntmps19
  go_wp2_with fail
  refine Calls.mono (KP.out _) ?_
  rintro e w1 ⟨rfl, hb⟩
  have HB1 : Hid (Below w.heap.size w w1) := bel_on (Nat.le_refl _) HB0.out hb
  have HP1 : Hid (w1.heap[w.heap.size]? = some (.cells #[.int .i64 s, .int .i64 n, .int .i64 d, .int .i64 r, .int .i64 l, .int .i64 b, .int .i64 g, .int .i64 k] 27)) := row_on HP0.out hb
  have HZ1 : Hid (w1.heap[w.heap.size + 1]? = some (.cells #[.int .i64 0, .int .i64 0, .int .i64 0, .int .i64 0, .int .i64 0, .int .i64 0, .int .i64 0, .int .i64 0] 27)) := row_on HZ0.out hb
  have p1 := box8_cells HP1.out
  clear hb HB0 HP0 HZ0 p0
  go_upto_region 2 with fail
  go_wp2_with (refine listStoreP rfl rfl _ _ _ rfl rfl (w.heap.size + 1) (s) (n) (d) (r) (l) (b) (g) (k) rfl rfl HZ1.out ?_)
  intro w99 hr9 ho9 hs9 hB9
  have HF : Hid (Below w.heap.size w w99) := hB9 _ _ (Nat.le_succ _) HB1.out
  obtain ⟨⟨q0, q1, q2, q3, q4, q5, q6, q7⟩, _⟩ := box8_cells hr9
  clear ho9 hs9 hB9 hr9
  go_wp2
  refine bodyPost_ret (v := .agg #[.int .i64 s, .int .i64 n, .int .i64 d, .int .i64 r, .int .i64 l, .int .i64 b, .int .i64 g, .int .i64 k]) (by simp only [results, Try.results19]; simp [go_sem, q0, q1, q2, q3, q4, q5, q6, q7]) rfl ⟨rfl, HF.out⟩
set_option maxRecDepth 100000 in
set_option maxHeartbeats 4000000 in
theorem gvI_0 (n d r l b g k a W m z0 z1 z2 z3 z4 z5 z6 z7 : Int) (KP : Hid (∀ w, Calls Try.prog 21 #[.agg #[.int .i64 0, .int .i64 n, .int .i64 d, .int .i64 r, .int .i64 l, .int .i64 b, .int .i64 g, .int .i64 k]] w fun e w' => e = .returned (.bool true) ∧ Below w.heap.size w w')) (KW : Hid (∀ w, Calls Try.prog 62 #[.agg #[.int .i64 0, .int .i64 n, .int .i64 d, .int .i64 r, .int .i64 l, .int .i64 b, .int .i64 g, .int .i64 k]] w fun e w' => e = .returned (.int .i64 W) ∧ Below w.heap.size w w')) (hm : Hid (min (max a 0) W = m)) (KG : Hid (∀ w, Calls Try.prog 63 #[.agg #[.int .i64 0, .int .i64 n, .int .i64 d, .int .i64 r, .int .i64 l, .int .i64 b, .int .i64 g, .int .i64 k], .int .i64 m] w fun e w' => e = .returned (.agg #[.int .i64 z0, .int .i64 z1, .int .i64 z2, .int .i64 z3, .int .i64 z4, .int .i64 z5, .int .i64 z6, .int .i64 z7]) ∧ Below w.heap.size w w')) (w : World) : Calls Try.prog 19 #[.agg #[.int .i64 0, .int .i64 n, .int .i64 d, .int .i64 r, .int .i64 l, .int .i64 b, .int .i64 g, .int .i64 k], .int .i64 a] w fun e w' => e = .returned (.agg #[.int .i64 z0, .int .i64 z1, .int .i64 z2, .int .i64 z3, .int .i64 z4, .int .i64 z5, .int .i64 z6, .int .i64 z7]) ∧ Below w.heap.size w w' := by
  have HB0 : Hid (Below w.heap.size w ((w.alloc (.cells #[.int .i64 0, .int .i64 n, .int .i64 d, .int .i64 r, .int .i64 l, .int .i64 b, .int .i64 g, .int .i64 k] 27)).alloc (.cells #[.int .i64 0, .int .i64 0, .int .i64 0, .int .i64 0, .int .i64 0, .int .i64 0, .int .i64 0, .int .i64 0] 27))) := bel_on (Nat.le_refl _) (alP _ _) (alP _ _)
  have HP0 : Hid (((w.alloc (.cells #[.int .i64 0, .int .i64 n, .int .i64 d, .int .i64 r, .int .i64 l, .int .i64 b, .int .i64 g, .int .i64 k] 27)).alloc (.cells #[.int .i64 0, .int .i64 0, .int .i64 0, .int .i64 0, .int .i64 0, .int .i64 0, .int .i64 0, .int .i64 0] 27)).heap[w.heap.size]? = some (.cells #[.int .i64 0, .int .i64 n, .int .i64 d, .int .i64 r, .int .i64 l, .int .i64 b, .int .i64 g, .int .i64 k] 27)) := row_on (heap_new w _) (alP _ _)
  have HZ0 : Hid (((w.alloc (.cells #[.int .i64 0, .int .i64 n, .int .i64 d, .int .i64 r, .int .i64 l, .int .i64 b, .int .i64 g, .int .i64 k] 27)).alloc (.cells #[.int .i64 0, .int .i64 0, .int .i64 0, .int .i64 0, .int .i64 0, .int .i64 0, .int .i64 0, .int .i64 0] 27)).heap[w.heap.size + 1]? = some (.cells #[.int .i64 0, .int .i64 0, .int .i64 0, .int .i64 0, .int .i64 0, .int .i64 0, .int .i64 0, .int .i64 0] 27)) := al_at (w.alloc (.cells #[.int .i64 0, .int .i64 n, .int .i64 d, .int .i64 r, .int .i64 l, .int .i64 b, .int .i64 g, .int .i64 k] 27)) _ (by simp)
  have p0 := box8_cells HP0.out
  go_enter Try.func19, Try.ntmps19
  go_wp2_with fail
  refine Calls.mono (KP.out _) ?_
  rintro e w1 ⟨rfl, hb⟩
  have HB1 : Hid (Below w.heap.size w w1) := bel_on (Nat.le_refl _) HB0.out hb
  have HP1 : Hid (w1.heap[w.heap.size]? = some (.cells #[.int .i64 0, .int .i64 n, .int .i64 d, .int .i64 r, .int .i64 l, .int .i64 b, .int .i64 g, .int .i64 k] 27)) := row_on HP0.out hb
  have HZ1 : Hid (w1.heap[w.heap.size + 1]? = some (.cells #[.int .i64 0, .int .i64 0, .int .i64 0, .int .i64 0, .int .i64 0, .int .i64 0, .int .i64 0, .int .i64 0] 27)) := row_on HZ0.out hb
  have p1 := box8_cells HP1.out
  clear hb HB0 HP0 HZ0 p0
  go_wp2_with fail
  refine Calls.mono (stI_0 n d r l b g k _) ?_
  rintro e w2 ⟨rfl, hb⟩
  have HB2 : Hid (Below w.heap.size w w2) := bel_on (Nat.le_refl _) HB1.out hb
  have HP2 : Hid (w2.heap[w.heap.size]? = some (.cells #[.int .i64 0, .int .i64 n, .int .i64 d, .int .i64 r, .int .i64 l, .int .i64 b, .int .i64 g, .int .i64 k] 27)) := row_on HP1.out hb
  have HZ2 : Hid (w2.heap[w.heap.size + 1]? = some (.cells #[.int .i64 0, .int .i64 0, .int .i64 0, .int .i64 0, .int .i64 0, .int .i64 0, .int .i64 0, .int .i64 0] 27)) := row_on HZ1.out hb
  have p2 := box8_cells HP2.out
  clear hb HB1 HP1 HZ1 p1
  have hl : w.heap.size + 1 < w2.heap.size := row_lt HZ2.out
  have HK0 : Hid (KV w (w2.alloc (.cells #[.func (.func 64) #[.agg #[.int .i64 0, .int .i64 n, .int .i64 d, .int .i64 r, .int .i64 l, .int .i64 b, .int .i64 g, .int .i64 k]] #[], .func (.func 62) #[.agg #[.int .i64 0, .int .i64 n, .int .i64 d, .int .i64 r, .int .i64 l, .int .i64 b, .int .i64 g, .int .i64 k]] #[], .func (.func 63) #[.agg #[.int .i64 0, .int .i64 n, .int .i64 d, .int .i64 r, .int .i64 l, .int .i64 b, .int .i64 g, .int .i64 k]] #[]] 61)).drew w2.heap.size (.func (.func 64) #[.agg #[.int .i64 0, .int .i64 n, .int .i64 d, .int .i64 r, .int .i64 l, .int .i64 b, .int .i64 g, .int .i64 k]] #[]) (.func (.func 62) #[.agg #[.int .i64 0, .int .i64 n, .int .i64 d, .int .i64 r, .int .i64 l, .int .i64 b, .int .i64 g, .int .i64 k]] #[]) (.func (.func 63) #[.agg #[.int .i64 0, .int .i64 n, .int .i64 d, .int .i64 r, .int .i64 l, .int .i64 b, .int .i64 g, .int .i64 k]] #[]) 61) := ⟨heap_new w2 _, Below.drew (bel_on (Nat.le_refl _) HB2.out (alP _ _))⟩
  have HZ0 : Hid ((w2.alloc (.cells #[.func (.func 64) #[.agg #[.int .i64 0, .int .i64 n, .int .i64 d, .int .i64 r, .int .i64 l, .int .i64 b, .int .i64 g, .int .i64 k]] #[], .func (.func 62) #[.agg #[.int .i64 0, .int .i64 n, .int .i64 d, .int .i64 r, .int .i64 l, .int .i64 b, .int .i64 g, .int .i64 k]] #[], .func (.func 63) #[.agg #[.int .i64 0, .int .i64 n, .int .i64 d, .int .i64 r, .int .i64 l, .int .i64 b, .int .i64 g, .int .i64 k]] #[]] 61)).drew.heap[w.heap.size + 1]? = some (.cells #[.int .i64 0, .int .i64 0, .int .i64 0, .int .i64 0, .int .i64 0, .int .i64 0, .int .i64 0, .int .i64 0] 27)) := (show (w2.alloc (.cells #[.func (.func 64) #[.agg #[.int .i64 0, .int .i64 n, .int .i64 d, .int .i64 r, .int .i64 l, .int .i64 b, .int .i64 g, .int .i64 k]] #[], .func (.func 62) #[.agg #[.int .i64 0, .int .i64 n, .int .i64 d, .int .i64 r, .int .i64 l, .int .i64 b, .int .i64 g, .int .i64 k]] #[], .func (.func 63) #[.agg #[.int .i64 0, .int .i64 n, .int .i64 d, .int .i64 r, .int .i64 l, .int .i64 b, .int .i64 g, .int .i64 k]] #[]] 61)).heap[w.heap.size + 1]? = some (.cells #[.int .i64 0, .int .i64 0, .int .i64 0, .int .i64 0, .int .i64 0, .int .i64 0, .int .i64 0, .int .i64 0] 27) from row_on HZ2.out (alP _ _))
  go_wp2_with fail
  clear p2 HB2 HP2 HZ2
  refine wp_region_held_drew (S := fun w' => w'.cell? ⟨w2.heap.size, 0, none⟩ = some (.func (.func 64) #[.agg #[.int .i64 0, .int .i64 n, .int .i64 d, .int .i64 r, .int .i64 l, .int .i64 b, .int .i64 g, .int .i64 k]] #[]) ∧ w'.cell? ⟨w2.heap.size, 1, none⟩ = some (.func (.func 62) #[.agg #[.int .i64 0, .int .i64 n, .int .i64 d, .int .i64 r, .int .i64 l, .int .i64 b, .int .i64 g, .int .i64 k]] #[]) ∧ w'.cell? ⟨w2.heap.size, 2, none⟩ = some (.func (.func 63) #[.agg #[.int .i64 0, .int .i64 n, .int .i64 d, .int .i64 r, .int .i64 l, .int .i64 b, .int .i64 g, .int .i64 k]] #[]) ∧ KV w w' w2.heap.size (.func (.func 64) #[.agg #[.int .i64 0, .int .i64 n, .int .i64 d, .int .i64 r, .int .i64 l, .int .i64 b, .int .i64 g, .int .i64 k]] #[]) (.func (.func 62) #[.agg #[.int .i64 0, .int .i64 n, .int .i64 d, .int .i64 r, .int .i64 l, .int .i64 b, .int .i64 g, .int .i64 k]] #[]) (.func (.func 63) #[.agg #[.int .i64 0, .int .i64 n, .int .i64 d, .int .i64 r, .int .i64 l, .int .i64 b, .int .i64 g, .int .i64 k]] #[]) 61) (by kernel_rfl) (kv_conj HK0.out) (fun hHeld => ?_)
  refine wpAnyH_take (i := 0) (v := ?_) rfl (by kernel_rfl) (by kernel_rfl) (by kernel_rfl) (fun _ _ _ h => h) (Or.inl ⟨by rfl, ?_⟩) (by assumption) ?_
  rotate_left
  · intro w_ hSw; (try dsimp only at hSw); go_simp <;> with_reducible rfl
  try simp only [Act.put, List.setIfInBounds_toArray, List.set_cons_zero, List.set_cons_succ, List.getElem_toArray, List.getElem_cons_zero, List.getElem_cons_succ]
  refine wpAnyH_take (i := 1) (v := ?_) rfl (by kernel_rfl) (by kernel_rfl) (by kernel_rfl) (fun _ _ _ h => h) (Or.inl ⟨by rfl, ?_⟩) (by assumption) ?_
  rotate_left
  · intro w_ hSw; (try dsimp only at hSw); go_simp <;> with_reducible rfl
  try simp only [Act.put, List.setIfInBounds_toArray, List.set_cons_zero, List.set_cons_succ, List.getElem_toArray, List.getElem_cons_zero, List.getElem_cons_succ]
  refine wpAnyH_take (i := 2) (v := ?_) rfl (by kernel_rfl) (by kernel_rfl) (by kernel_rfl) (fun _ _ _ h => h) (Or.inl ⟨by rfl, ?_⟩) (by assumption) ?_
  rotate_left
  · intro w_ hSw; (try dsimp only at hSw); go_simp <;> with_reducible rfl
  try simp only [Act.put, List.setIfInBounds_toArray, List.set_cons_zero, List.set_cons_succ, List.getElem_toArray, List.getElem_cons_zero, List.getElem_cons_succ]
  refine wpAnyH_take (i := 3) (v := ?_) rfl (by kernel_rfl) (by kernel_rfl) (by kernel_rfl) (fun _ _ _ h => h) (Or.inl ⟨by rfl, ?_⟩) (by assumption) ?_
  rotate_left
  · intro w_ hSw; (try dsimp only at hSw); go_simp <;> with_reducible rfl
  try simp only [Act.put, List.setIfInBounds_toArray, List.set_cons_zero, List.set_cons_succ, List.getElem_toArray, List.getElem_cons_zero, List.getElem_cons_succ]
  refine wpAnyH_take (i := 6) (v := ?_) rfl (by kernel_rfl) (by kernel_rfl) (by kernel_rfl) (fun _ _ _ h => h) (Or.inl ⟨by rfl, ?_⟩) (by assumption) ?_
  rotate_left
  · intro w_ hSw; (try dsimp only at hSw); go_simp <;> with_reducible rfl
  try simp only [Act.put, List.setIfInBounds_toArray, List.set_cons_zero, List.set_cons_succ, List.getElem_toArray, List.getElem_cons_zero, List.getElem_cons_succ]
  refine wpAnyH_ready (rs := [4]) (by kernel_rfl) (by simp) ?_
  refine AllReadyH.cons rfl (fun J hJ => ?_) AllReadyH.nil
  go_simp
  go_at_call 62
  refine Calls.mono (KW.out _) ?_
  rintro e v1 ⟨rfl, hbc⟩
  have HK1 : Hid (KV w v1 w2.heap.size (.func (.func 64) #[.agg #[.int .i64 0, .int .i64 n, .int .i64 d, .int .i64 r, .int .i64 l, .int .i64 b, .int .i64 g, .int .i64 k]] #[]) (.func (.func 62) #[.agg #[.int .i64 0, .int .i64 n, .int .i64 d, .int .i64 r, .int .i64 l, .int .i64 b, .int .i64 g, .int .i64 k]] #[]) (.func (.func 63) #[.agg #[.int .i64 0, .int .i64 n, .int .i64 d, .int .i64 r, .int .i64 l, .int .i64 b, .int .i64 g, .int .i64 k]] #[]) 61) := HK0.out.on hbc
  have HZ1 : Hid (v1.heap[w.heap.size + 1]? = some (.cells #[.int .i64 0, .int .i64 0, .int .i64 0, .int .i64 0, .int .i64 0, .int .i64 0, .int .i64 0, .int .i64 0] 27)) := row_on HZ0.out hbc
  go_wp2_with fail
  refine hJ.out _ _ ?_ (fun hHeld1 => ?_)
  · exact kv_conj HK1.out
  clear hJ J hbc HK0 HZ0
  try simp only [Act.put, List.setIfInBounds_toArray, List.set_cons_zero, List.set_cons_succ, List.getElem_toArray, List.getElem_cons_zero, List.getElem_cons_succ]
  refine wpAnyH_take (i := 5) (v := ?_) rfl (by kernel_rfl) (by kernel_rfl) (by kernel_rfl) (fun _ _ _ h => h) (Or.inl ⟨by rfl, ?_⟩) (by assumption) ?_
  rotate_left
  · intro w_ hSw; (try dsimp only at hSw); go_simp <;> with_reducible rfl
  try simp only [Act.put, List.setIfInBounds_toArray, List.set_cons_zero, List.set_cons_succ, List.getElem_toArray, List.getElem_cons_zero, List.getElem_cons_succ]
  refine wpAnyH_ready (rs := [7]) (by kernel_rfl) (by simp) ?_
  refine AllReadyH.cons rfl (fun J hJ => ?_) AllReadyH.nil
  go_simp
  go_at_call 39
  refine Calls.mono (intoI 0 W a m hm.out _) ?_
  rintro e v2 ⟨rfl, hbc⟩
  have HK2 : Hid (KV w v2 w2.heap.size (.func (.func 64) #[.agg #[.int .i64 0, .int .i64 n, .int .i64 d, .int .i64 r, .int .i64 l, .int .i64 b, .int .i64 g, .int .i64 k]] #[]) (.func (.func 62) #[.agg #[.int .i64 0, .int .i64 n, .int .i64 d, .int .i64 r, .int .i64 l, .int .i64 b, .int .i64 g, .int .i64 k]] #[]) (.func (.func 63) #[.agg #[.int .i64 0, .int .i64 n, .int .i64 d, .int .i64 r, .int .i64 l, .int .i64 b, .int .i64 g, .int .i64 k]] #[]) 61) := HK1.out.on hbc
  have HZ2 : Hid (v2.heap[w.heap.size + 1]? = some (.cells #[.int .i64 0, .int .i64 0, .int .i64 0, .int .i64 0, .int .i64 0, .int .i64 0, .int .i64 0, .int .i64 0] 27)) := row_on HZ1.out hbc
  go_wp2_with fail
  refine hJ.out _ _ ?_ (fun hHeld2 => ?_)
  · exact kv_conj HK2.out
  clear hJ J hbc HK1 HZ1
  try simp only [Act.put, List.setIfInBounds_toArray, List.set_cons_zero, List.set_cons_succ, List.getElem_toArray, List.getElem_cons_zero, List.getElem_cons_succ]
  refine wpAnyH_ready (rs := [8]) (by kernel_rfl) (by simp) ?_
  refine AllReadyH.cons rfl (fun J hJ => ?_) AllReadyH.nil
  go_simp
  go_at_call 63
  refine Calls.mono (KG.out _) ?_
  rintro e v3 ⟨rfl, hbc⟩
  have HK3 : Hid (KV w v3 w2.heap.size (.func (.func 64) #[.agg #[.int .i64 0, .int .i64 n, .int .i64 d, .int .i64 r, .int .i64 l, .int .i64 b, .int .i64 g, .int .i64 k]] #[]) (.func (.func 62) #[.agg #[.int .i64 0, .int .i64 n, .int .i64 d, .int .i64 r, .int .i64 l, .int .i64 b, .int .i64 g, .int .i64 k]] #[]) (.func (.func 63) #[.agg #[.int .i64 0, .int .i64 n, .int .i64 d, .int .i64 r, .int .i64 l, .int .i64 b, .int .i64 g, .int .i64 k]] #[]) 61) := HK2.out.on hbc
  have HZ3 : Hid (v3.heap[w.heap.size + 1]? = some (.cells #[.int .i64 0, .int .i64 0, .int .i64 0, .int .i64 0, .int .i64 0, .int .i64 0, .int .i64 0, .int .i64 0] 27)) := row_on HZ2.out hbc
  go_wp2_with fail
  refine hJ.out _ _ ?_ (fun hHeld3 => ?_)
  · exact kv_conj HK3.out
  clear hJ J hbc HK2 HZ2
  try simp only [Act.put, List.setIfInBounds_toArray, List.set_cons_zero, List.set_cons_succ, List.getElem_toArray, List.getElem_cons_zero, List.getElem_cons_succ]
  refine wpAnyH_ready (rs := [9]) (by kernel_rfl) (by simp) ?_
  refine AllReadyH.cons rfl (fun J hJ => ?_) AllReadyH.nil
  have kz := box8_cells HZ3.out
  go_simp
  have HPn : Hid (((((((((v3.setCell ⟨w.heap.size + 1, 0, none⟩ (.int .i64 z0)).setCell ⟨w.heap.size + 1, 1, none⟩ (.int .i64 z1)).setCell ⟨w.heap.size + 1, 2, none⟩ (.int .i64 z2)).setCell ⟨w.heap.size + 1, 3, none⟩ (.int .i64 z3)).setCell ⟨w.heap.size + 1, 4, none⟩ (.int .i64 z4)).setCell ⟨w.heap.size + 1, 5, none⟩ (.int .i64 z5)).setCell ⟨w.heap.size + 1, 6, none⟩ (.int .i64 z6)).setCell ⟨w.heap.size + 1, 7, none⟩ (.int .i64 z7)).heap[w.heap.size + 1]? = some (.cells #[.int .i64 z0, .int .i64 z1, .int .i64 z2, .int .i64 z3, .int .i64 z4, .int .i64 z5, .int .i64 z6, .int .i64 z7] 27)) := set8_row z0 z1 z2 z3 z4 z5 z6 z7 HZ3.out
  have HBn : Hid (Below w.heap.size w ((((((((v3.setCell ⟨w.heap.size + 1, 0, none⟩ (.int .i64 z0)).setCell ⟨w.heap.size + 1, 1, none⟩ (.int .i64 z1)).setCell ⟨w.heap.size + 1, 2, none⟩ (.int .i64 z2)).setCell ⟨w.heap.size + 1, 3, none⟩ (.int .i64 z3)).setCell ⟨w.heap.size + 1, 4, none⟩ (.int .i64 z4)).setCell ⟨w.heap.size + 1, 5, none⟩ (.int .i64 z5)).setCell ⟨w.heap.size + 1, 6, none⟩ (.int .i64 z6)).setCell ⟨w.heap.size + 1, 7, none⟩ (.int .i64 z7))) := set8_bel z0 z1 z2 z3 z4 z5 z6 z7 HK3.out.2 (Nat.le_succ _)
  have HKn : Hid (KV w ((((((((v3.setCell ⟨w.heap.size + 1, 0, none⟩ (.int .i64 z0)).setCell ⟨w.heap.size + 1, 1, none⟩ (.int .i64 z1)).setCell ⟨w.heap.size + 1, 2, none⟩ (.int .i64 z2)).setCell ⟨w.heap.size + 1, 3, none⟩ (.int .i64 z3)).setCell ⟨w.heap.size + 1, 4, none⟩ (.int .i64 z4)).setCell ⟨w.heap.size + 1, 5, none⟩ (.int .i64 z5)).setCell ⟨w.heap.size + 1, 6, none⟩ (.int .i64 z6)).setCell ⟨w.heap.size + 1, 7, none⟩ (.int .i64 z7)) w2.heap.size (.func (.func 64) #[.agg #[.int .i64 0, .int .i64 n, .int .i64 d, .int .i64 r, .int .i64 l, .int .i64 b, .int .i64 g, .int .i64 k]] #[]) (.func (.func 62) #[.agg #[.int .i64 0, .int .i64 n, .int .i64 d, .int .i64 r, .int .i64 l, .int .i64 b, .int .i64 g, .int .i64 k]] #[]) (.func (.func 63) #[.agg #[.int .i64 0, .int .i64 n, .int .i64 d, .int .i64 r, .int .i64 l, .int .i64 b, .int .i64 g, .int .i64 k]] #[]) 61) := ⟨set8_far z0 z1 z2 z3 z4 z5 z6 z7 HK3.out.1 (by omega), HBn.out⟩
  refine hJ.out _ _ (kv_conj HKn.out) (fun hHeld4 => ?_)
  clear hJ J kz HK3 HZ3
  try simp only [Act.put, List.setIfInBounds_toArray, List.set_cons_zero, List.set_cons_succ, List.getElem_toArray, List.getElem_cons_zero, List.getElem_cons_succ]
  generalize ((((((((v3.setCell ⟨w.heap.size + 1, 0, none⟩ (.int .i64 z0)).setCell ⟨w.heap.size + 1, 1, none⟩ (.int .i64 z1)).setCell ⟨w.heap.size + 1, 2, none⟩ (.int .i64 z2)).setCell ⟨w.heap.size + 1, 3, none⟩ (.int .i64 z3)).setCell ⟨w.heap.size + 1, 4, none⟩ (.int .i64 z4)).setCell ⟨w.heap.size + 1, 5, none⟩ (.int .i64 z5)).setCell ⟨w.heap.size + 1, 6, none⟩ (.int .i64 z6)).setCell ⟨w.heap.size + 1, 7, none⟩ (.int .i64 z7)) = w9 at *
  refine wpAnyH_done (by kernel_rfl) ?_ _
  clear hHeld hHeld1 hHeld2 hHeld3 hHeld4
  obtain ⟨⟨q0, q1, q2, q3, q4, q5, q6, q7⟩, _⟩ := box8_cells HPn.out
  go_wp2
  refine bodyPost_ret (v := .agg #[.int .i64 z0, .int .i64 z1, .int .i64 z2, .int .i64 z3, .int .i64 z4, .int .i64 z5, .int .i64 z6, .int .i64 z7]) (by simp only [results, Try.results19]; simp [go_sem, q0, q1, q2, q3, q4, q5, q6, q7]) rfl ⟨rfl, HBn.out⟩
set_option maxRecDepth 100000 in
set_option maxHeartbeats 4000000 in
theorem gvI_1 (n d r l b g k a W m z0 z1 z2 z3 z4 z5 z6 z7 : Int) (KP : Hid (∀ w, Calls Try.prog 21 #[.agg #[.int .i64 1, .int .i64 n, .int .i64 d, .int .i64 r, .int .i64 l, .int .i64 b, .int .i64 g, .int .i64 k]] w fun e w' => e = .returned (.bool true) ∧ Below w.heap.size w w')) (KW : Hid (∀ w, Calls Try.prog 56 #[.agg #[.int .i64 1, .int .i64 n, .int .i64 d, .int .i64 r, .int .i64 l, .int .i64 b, .int .i64 g, .int .i64 k]] w fun e w' => e = .returned (.int .i64 W) ∧ Below w.heap.size w w')) (hm : Hid (min (max a 0) W = m)) (KG : Hid (∀ w, Calls Try.prog 57 #[.agg #[.int .i64 1, .int .i64 n, .int .i64 d, .int .i64 r, .int .i64 l, .int .i64 b, .int .i64 g, .int .i64 k], .int .i64 m] w fun e w' => e = .returned (.agg #[.int .i64 z0, .int .i64 z1, .int .i64 z2, .int .i64 z3, .int .i64 z4, .int .i64 z5, .int .i64 z6, .int .i64 z7]) ∧ Below w.heap.size w w')) (w : World) : Calls Try.prog 19 #[.agg #[.int .i64 1, .int .i64 n, .int .i64 d, .int .i64 r, .int .i64 l, .int .i64 b, .int .i64 g, .int .i64 k], .int .i64 a] w fun e w' => e = .returned (.agg #[.int .i64 z0, .int .i64 z1, .int .i64 z2, .int .i64 z3, .int .i64 z4, .int .i64 z5, .int .i64 z6, .int .i64 z7]) ∧ Below w.heap.size w w' := by
  have HB0 : Hid (Below w.heap.size w ((w.alloc (.cells #[.int .i64 1, .int .i64 n, .int .i64 d, .int .i64 r, .int .i64 l, .int .i64 b, .int .i64 g, .int .i64 k] 27)).alloc (.cells #[.int .i64 0, .int .i64 0, .int .i64 0, .int .i64 0, .int .i64 0, .int .i64 0, .int .i64 0, .int .i64 0] 27))) := bel_on (Nat.le_refl _) (alP _ _) (alP _ _)
  have HP0 : Hid (((w.alloc (.cells #[.int .i64 1, .int .i64 n, .int .i64 d, .int .i64 r, .int .i64 l, .int .i64 b, .int .i64 g, .int .i64 k] 27)).alloc (.cells #[.int .i64 0, .int .i64 0, .int .i64 0, .int .i64 0, .int .i64 0, .int .i64 0, .int .i64 0, .int .i64 0] 27)).heap[w.heap.size]? = some (.cells #[.int .i64 1, .int .i64 n, .int .i64 d, .int .i64 r, .int .i64 l, .int .i64 b, .int .i64 g, .int .i64 k] 27)) := row_on (heap_new w _) (alP _ _)
  have HZ0 : Hid (((w.alloc (.cells #[.int .i64 1, .int .i64 n, .int .i64 d, .int .i64 r, .int .i64 l, .int .i64 b, .int .i64 g, .int .i64 k] 27)).alloc (.cells #[.int .i64 0, .int .i64 0, .int .i64 0, .int .i64 0, .int .i64 0, .int .i64 0, .int .i64 0, .int .i64 0] 27)).heap[w.heap.size + 1]? = some (.cells #[.int .i64 0, .int .i64 0, .int .i64 0, .int .i64 0, .int .i64 0, .int .i64 0, .int .i64 0, .int .i64 0] 27)) := al_at (w.alloc (.cells #[.int .i64 1, .int .i64 n, .int .i64 d, .int .i64 r, .int .i64 l, .int .i64 b, .int .i64 g, .int .i64 k] 27)) _ (by simp)
  have p0 := box8_cells HP0.out
  go_enter Try.func19, Try.ntmps19
  go_wp2_with fail
  refine Calls.mono (KP.out _) ?_
  rintro e w1 ⟨rfl, hb⟩
  have HB1 : Hid (Below w.heap.size w w1) := bel_on (Nat.le_refl _) HB0.out hb
  have HP1 : Hid (w1.heap[w.heap.size]? = some (.cells #[.int .i64 1, .int .i64 n, .int .i64 d, .int .i64 r, .int .i64 l, .int .i64 b, .int .i64 g, .int .i64 k] 27)) := row_on HP0.out hb
  have HZ1 : Hid (w1.heap[w.heap.size + 1]? = some (.cells #[.int .i64 0, .int .i64 0, .int .i64 0, .int .i64 0, .int .i64 0, .int .i64 0, .int .i64 0, .int .i64 0] 27)) := row_on HZ0.out hb
  have p1 := box8_cells HP1.out
  clear hb HB0 HP0 HZ0 p0
  go_wp2_with fail
  refine Calls.mono (stI_1 n d r l b g k _) ?_
  rintro e w2 ⟨rfl, hb⟩
  have HB2 : Hid (Below w.heap.size w w2) := bel_on (Nat.le_refl _) HB1.out hb
  have HP2 : Hid (w2.heap[w.heap.size]? = some (.cells #[.int .i64 1, .int .i64 n, .int .i64 d, .int .i64 r, .int .i64 l, .int .i64 b, .int .i64 g, .int .i64 k] 27)) := row_on HP1.out hb
  have HZ2 : Hid (w2.heap[w.heap.size + 1]? = some (.cells #[.int .i64 0, .int .i64 0, .int .i64 0, .int .i64 0, .int .i64 0, .int .i64 0, .int .i64 0, .int .i64 0] 27)) := row_on HZ1.out hb
  have p2 := box8_cells HP2.out
  clear hb HB1 HP1 HZ1 p1
  have hl : w.heap.size + 1 < w2.heap.size := row_lt HZ2.out
  have HK0 : Hid (KV w (w2.alloc (.cells #[.func (.func 55) #[.agg #[.int .i64 1, .int .i64 n, .int .i64 d, .int .i64 r, .int .i64 l, .int .i64 b, .int .i64 g, .int .i64 k]] #[], .func (.func 56) #[.agg #[.int .i64 1, .int .i64 n, .int .i64 d, .int .i64 r, .int .i64 l, .int .i64 b, .int .i64 g, .int .i64 k]] #[], .func (.func 57) #[.agg #[.int .i64 1, .int .i64 n, .int .i64 d, .int .i64 r, .int .i64 l, .int .i64 b, .int .i64 g, .int .i64 k]] #[]] 61)).drew w2.heap.size (.func (.func 55) #[.agg #[.int .i64 1, .int .i64 n, .int .i64 d, .int .i64 r, .int .i64 l, .int .i64 b, .int .i64 g, .int .i64 k]] #[]) (.func (.func 56) #[.agg #[.int .i64 1, .int .i64 n, .int .i64 d, .int .i64 r, .int .i64 l, .int .i64 b, .int .i64 g, .int .i64 k]] #[]) (.func (.func 57) #[.agg #[.int .i64 1, .int .i64 n, .int .i64 d, .int .i64 r, .int .i64 l, .int .i64 b, .int .i64 g, .int .i64 k]] #[]) 61) := ⟨heap_new w2 _, Below.drew (bel_on (Nat.le_refl _) HB2.out (alP _ _))⟩
  have HZ0 : Hid ((w2.alloc (.cells #[.func (.func 55) #[.agg #[.int .i64 1, .int .i64 n, .int .i64 d, .int .i64 r, .int .i64 l, .int .i64 b, .int .i64 g, .int .i64 k]] #[], .func (.func 56) #[.agg #[.int .i64 1, .int .i64 n, .int .i64 d, .int .i64 r, .int .i64 l, .int .i64 b, .int .i64 g, .int .i64 k]] #[], .func (.func 57) #[.agg #[.int .i64 1, .int .i64 n, .int .i64 d, .int .i64 r, .int .i64 l, .int .i64 b, .int .i64 g, .int .i64 k]] #[]] 61)).drew.heap[w.heap.size + 1]? = some (.cells #[.int .i64 0, .int .i64 0, .int .i64 0, .int .i64 0, .int .i64 0, .int .i64 0, .int .i64 0, .int .i64 0] 27)) := (show (w2.alloc (.cells #[.func (.func 55) #[.agg #[.int .i64 1, .int .i64 n, .int .i64 d, .int .i64 r, .int .i64 l, .int .i64 b, .int .i64 g, .int .i64 k]] #[], .func (.func 56) #[.agg #[.int .i64 1, .int .i64 n, .int .i64 d, .int .i64 r, .int .i64 l, .int .i64 b, .int .i64 g, .int .i64 k]] #[], .func (.func 57) #[.agg #[.int .i64 1, .int .i64 n, .int .i64 d, .int .i64 r, .int .i64 l, .int .i64 b, .int .i64 g, .int .i64 k]] #[]] 61)).heap[w.heap.size + 1]? = some (.cells #[.int .i64 0, .int .i64 0, .int .i64 0, .int .i64 0, .int .i64 0, .int .i64 0, .int .i64 0, .int .i64 0] 27) from row_on HZ2.out (alP _ _))
  go_wp2_with fail
  clear p2 HB2 HP2 HZ2
  refine wp_region_held_drew (S := fun w' => w'.cell? ⟨w2.heap.size, 0, none⟩ = some (.func (.func 55) #[.agg #[.int .i64 1, .int .i64 n, .int .i64 d, .int .i64 r, .int .i64 l, .int .i64 b, .int .i64 g, .int .i64 k]] #[]) ∧ w'.cell? ⟨w2.heap.size, 1, none⟩ = some (.func (.func 56) #[.agg #[.int .i64 1, .int .i64 n, .int .i64 d, .int .i64 r, .int .i64 l, .int .i64 b, .int .i64 g, .int .i64 k]] #[]) ∧ w'.cell? ⟨w2.heap.size, 2, none⟩ = some (.func (.func 57) #[.agg #[.int .i64 1, .int .i64 n, .int .i64 d, .int .i64 r, .int .i64 l, .int .i64 b, .int .i64 g, .int .i64 k]] #[]) ∧ KV w w' w2.heap.size (.func (.func 55) #[.agg #[.int .i64 1, .int .i64 n, .int .i64 d, .int .i64 r, .int .i64 l, .int .i64 b, .int .i64 g, .int .i64 k]] #[]) (.func (.func 56) #[.agg #[.int .i64 1, .int .i64 n, .int .i64 d, .int .i64 r, .int .i64 l, .int .i64 b, .int .i64 g, .int .i64 k]] #[]) (.func (.func 57) #[.agg #[.int .i64 1, .int .i64 n, .int .i64 d, .int .i64 r, .int .i64 l, .int .i64 b, .int .i64 g, .int .i64 k]] #[]) 61) (by kernel_rfl) (kv_conj HK0.out) (fun hHeld => ?_)
  refine wpAnyH_take (i := 0) (v := ?_) rfl (by kernel_rfl) (by kernel_rfl) (by kernel_rfl) (fun _ _ _ h => h) (Or.inl ⟨by rfl, ?_⟩) (by assumption) ?_
  rotate_left
  · intro w_ hSw; (try dsimp only at hSw); go_simp <;> with_reducible rfl
  try simp only [Act.put, List.setIfInBounds_toArray, List.set_cons_zero, List.set_cons_succ, List.getElem_toArray, List.getElem_cons_zero, List.getElem_cons_succ]
  refine wpAnyH_take (i := 1) (v := ?_) rfl (by kernel_rfl) (by kernel_rfl) (by kernel_rfl) (fun _ _ _ h => h) (Or.inl ⟨by rfl, ?_⟩) (by assumption) ?_
  rotate_left
  · intro w_ hSw; (try dsimp only at hSw); go_simp <;> with_reducible rfl
  try simp only [Act.put, List.setIfInBounds_toArray, List.set_cons_zero, List.set_cons_succ, List.getElem_toArray, List.getElem_cons_zero, List.getElem_cons_succ]
  refine wpAnyH_take (i := 2) (v := ?_) rfl (by kernel_rfl) (by kernel_rfl) (by kernel_rfl) (fun _ _ _ h => h) (Or.inl ⟨by rfl, ?_⟩) (by assumption) ?_
  rotate_left
  · intro w_ hSw; (try dsimp only at hSw); go_simp <;> with_reducible rfl
  try simp only [Act.put, List.setIfInBounds_toArray, List.set_cons_zero, List.set_cons_succ, List.getElem_toArray, List.getElem_cons_zero, List.getElem_cons_succ]
  refine wpAnyH_take (i := 3) (v := ?_) rfl (by kernel_rfl) (by kernel_rfl) (by kernel_rfl) (fun _ _ _ h => h) (Or.inl ⟨by rfl, ?_⟩) (by assumption) ?_
  rotate_left
  · intro w_ hSw; (try dsimp only at hSw); go_simp <;> with_reducible rfl
  try simp only [Act.put, List.setIfInBounds_toArray, List.set_cons_zero, List.set_cons_succ, List.getElem_toArray, List.getElem_cons_zero, List.getElem_cons_succ]
  refine wpAnyH_take (i := 6) (v := ?_) rfl (by kernel_rfl) (by kernel_rfl) (by kernel_rfl) (fun _ _ _ h => h) (Or.inl ⟨by rfl, ?_⟩) (by assumption) ?_
  rotate_left
  · intro w_ hSw; (try dsimp only at hSw); go_simp <;> with_reducible rfl
  try simp only [Act.put, List.setIfInBounds_toArray, List.set_cons_zero, List.set_cons_succ, List.getElem_toArray, List.getElem_cons_zero, List.getElem_cons_succ]
  refine wpAnyH_ready (rs := [4]) (by kernel_rfl) (by simp) ?_
  refine AllReadyH.cons rfl (fun J hJ => ?_) AllReadyH.nil
  go_simp
  go_at_call 56
  refine Calls.mono (KW.out _) ?_
  rintro e v1 ⟨rfl, hbc⟩
  have HK1 : Hid (KV w v1 w2.heap.size (.func (.func 55) #[.agg #[.int .i64 1, .int .i64 n, .int .i64 d, .int .i64 r, .int .i64 l, .int .i64 b, .int .i64 g, .int .i64 k]] #[]) (.func (.func 56) #[.agg #[.int .i64 1, .int .i64 n, .int .i64 d, .int .i64 r, .int .i64 l, .int .i64 b, .int .i64 g, .int .i64 k]] #[]) (.func (.func 57) #[.agg #[.int .i64 1, .int .i64 n, .int .i64 d, .int .i64 r, .int .i64 l, .int .i64 b, .int .i64 g, .int .i64 k]] #[]) 61) := HK0.out.on hbc
  have HZ1 : Hid (v1.heap[w.heap.size + 1]? = some (.cells #[.int .i64 0, .int .i64 0, .int .i64 0, .int .i64 0, .int .i64 0, .int .i64 0, .int .i64 0, .int .i64 0] 27)) := row_on HZ0.out hbc
  go_wp2_with fail
  refine hJ.out _ _ ?_ (fun hHeld1 => ?_)
  · exact kv_conj HK1.out
  clear hJ J hbc HK0 HZ0
  try simp only [Act.put, List.setIfInBounds_toArray, List.set_cons_zero, List.set_cons_succ, List.getElem_toArray, List.getElem_cons_zero, List.getElem_cons_succ]
  refine wpAnyH_take (i := 5) (v := ?_) rfl (by kernel_rfl) (by kernel_rfl) (by kernel_rfl) (fun _ _ _ h => h) (Or.inl ⟨by rfl, ?_⟩) (by assumption) ?_
  rotate_left
  · intro w_ hSw; (try dsimp only at hSw); go_simp <;> with_reducible rfl
  try simp only [Act.put, List.setIfInBounds_toArray, List.set_cons_zero, List.set_cons_succ, List.getElem_toArray, List.getElem_cons_zero, List.getElem_cons_succ]
  refine wpAnyH_ready (rs := [7]) (by kernel_rfl) (by simp) ?_
  refine AllReadyH.cons rfl (fun J hJ => ?_) AllReadyH.nil
  go_simp
  go_at_call 39
  refine Calls.mono (intoI 0 W a m hm.out _) ?_
  rintro e v2 ⟨rfl, hbc⟩
  have HK2 : Hid (KV w v2 w2.heap.size (.func (.func 55) #[.agg #[.int .i64 1, .int .i64 n, .int .i64 d, .int .i64 r, .int .i64 l, .int .i64 b, .int .i64 g, .int .i64 k]] #[]) (.func (.func 56) #[.agg #[.int .i64 1, .int .i64 n, .int .i64 d, .int .i64 r, .int .i64 l, .int .i64 b, .int .i64 g, .int .i64 k]] #[]) (.func (.func 57) #[.agg #[.int .i64 1, .int .i64 n, .int .i64 d, .int .i64 r, .int .i64 l, .int .i64 b, .int .i64 g, .int .i64 k]] #[]) 61) := HK1.out.on hbc
  have HZ2 : Hid (v2.heap[w.heap.size + 1]? = some (.cells #[.int .i64 0, .int .i64 0, .int .i64 0, .int .i64 0, .int .i64 0, .int .i64 0, .int .i64 0, .int .i64 0] 27)) := row_on HZ1.out hbc
  go_wp2_with fail
  refine hJ.out _ _ ?_ (fun hHeld2 => ?_)
  · exact kv_conj HK2.out
  clear hJ J hbc HK1 HZ1
  try simp only [Act.put, List.setIfInBounds_toArray, List.set_cons_zero, List.set_cons_succ, List.getElem_toArray, List.getElem_cons_zero, List.getElem_cons_succ]
  refine wpAnyH_ready (rs := [8]) (by kernel_rfl) (by simp) ?_
  refine AllReadyH.cons rfl (fun J hJ => ?_) AllReadyH.nil
  go_simp
  go_at_call 57
  refine Calls.mono (KG.out _) ?_
  rintro e v3 ⟨rfl, hbc⟩
  have HK3 : Hid (KV w v3 w2.heap.size (.func (.func 55) #[.agg #[.int .i64 1, .int .i64 n, .int .i64 d, .int .i64 r, .int .i64 l, .int .i64 b, .int .i64 g, .int .i64 k]] #[]) (.func (.func 56) #[.agg #[.int .i64 1, .int .i64 n, .int .i64 d, .int .i64 r, .int .i64 l, .int .i64 b, .int .i64 g, .int .i64 k]] #[]) (.func (.func 57) #[.agg #[.int .i64 1, .int .i64 n, .int .i64 d, .int .i64 r, .int .i64 l, .int .i64 b, .int .i64 g, .int .i64 k]] #[]) 61) := HK2.out.on hbc
  have HZ3 : Hid (v3.heap[w.heap.size + 1]? = some (.cells #[.int .i64 0, .int .i64 0, .int .i64 0, .int .i64 0, .int .i64 0, .int .i64 0, .int .i64 0, .int .i64 0] 27)) := row_on HZ2.out hbc
  go_wp2_with fail
  refine hJ.out _ _ ?_ (fun hHeld3 => ?_)
  · exact kv_conj HK3.out
  clear hJ J hbc HK2 HZ2
  try simp only [Act.put, List.setIfInBounds_toArray, List.set_cons_zero, List.set_cons_succ, List.getElem_toArray, List.getElem_cons_zero, List.getElem_cons_succ]
  refine wpAnyH_ready (rs := [9]) (by kernel_rfl) (by simp) ?_
  refine AllReadyH.cons rfl (fun J hJ => ?_) AllReadyH.nil
  have kz := box8_cells HZ3.out
  go_simp
  have HPn : Hid (((((((((v3.setCell ⟨w.heap.size + 1, 0, none⟩ (.int .i64 z0)).setCell ⟨w.heap.size + 1, 1, none⟩ (.int .i64 z1)).setCell ⟨w.heap.size + 1, 2, none⟩ (.int .i64 z2)).setCell ⟨w.heap.size + 1, 3, none⟩ (.int .i64 z3)).setCell ⟨w.heap.size + 1, 4, none⟩ (.int .i64 z4)).setCell ⟨w.heap.size + 1, 5, none⟩ (.int .i64 z5)).setCell ⟨w.heap.size + 1, 6, none⟩ (.int .i64 z6)).setCell ⟨w.heap.size + 1, 7, none⟩ (.int .i64 z7)).heap[w.heap.size + 1]? = some (.cells #[.int .i64 z0, .int .i64 z1, .int .i64 z2, .int .i64 z3, .int .i64 z4, .int .i64 z5, .int .i64 z6, .int .i64 z7] 27)) := set8_row z0 z1 z2 z3 z4 z5 z6 z7 HZ3.out
  have HBn : Hid (Below w.heap.size w ((((((((v3.setCell ⟨w.heap.size + 1, 0, none⟩ (.int .i64 z0)).setCell ⟨w.heap.size + 1, 1, none⟩ (.int .i64 z1)).setCell ⟨w.heap.size + 1, 2, none⟩ (.int .i64 z2)).setCell ⟨w.heap.size + 1, 3, none⟩ (.int .i64 z3)).setCell ⟨w.heap.size + 1, 4, none⟩ (.int .i64 z4)).setCell ⟨w.heap.size + 1, 5, none⟩ (.int .i64 z5)).setCell ⟨w.heap.size + 1, 6, none⟩ (.int .i64 z6)).setCell ⟨w.heap.size + 1, 7, none⟩ (.int .i64 z7))) := set8_bel z0 z1 z2 z3 z4 z5 z6 z7 HK3.out.2 (Nat.le_succ _)
  have HKn : Hid (KV w ((((((((v3.setCell ⟨w.heap.size + 1, 0, none⟩ (.int .i64 z0)).setCell ⟨w.heap.size + 1, 1, none⟩ (.int .i64 z1)).setCell ⟨w.heap.size + 1, 2, none⟩ (.int .i64 z2)).setCell ⟨w.heap.size + 1, 3, none⟩ (.int .i64 z3)).setCell ⟨w.heap.size + 1, 4, none⟩ (.int .i64 z4)).setCell ⟨w.heap.size + 1, 5, none⟩ (.int .i64 z5)).setCell ⟨w.heap.size + 1, 6, none⟩ (.int .i64 z6)).setCell ⟨w.heap.size + 1, 7, none⟩ (.int .i64 z7)) w2.heap.size (.func (.func 55) #[.agg #[.int .i64 1, .int .i64 n, .int .i64 d, .int .i64 r, .int .i64 l, .int .i64 b, .int .i64 g, .int .i64 k]] #[]) (.func (.func 56) #[.agg #[.int .i64 1, .int .i64 n, .int .i64 d, .int .i64 r, .int .i64 l, .int .i64 b, .int .i64 g, .int .i64 k]] #[]) (.func (.func 57) #[.agg #[.int .i64 1, .int .i64 n, .int .i64 d, .int .i64 r, .int .i64 l, .int .i64 b, .int .i64 g, .int .i64 k]] #[]) 61) := ⟨set8_far z0 z1 z2 z3 z4 z5 z6 z7 HK3.out.1 (by omega), HBn.out⟩
  refine hJ.out _ _ (kv_conj HKn.out) (fun hHeld4 => ?_)
  clear hJ J kz HK3 HZ3
  try simp only [Act.put, List.setIfInBounds_toArray, List.set_cons_zero, List.set_cons_succ, List.getElem_toArray, List.getElem_cons_zero, List.getElem_cons_succ]
  generalize ((((((((v3.setCell ⟨w.heap.size + 1, 0, none⟩ (.int .i64 z0)).setCell ⟨w.heap.size + 1, 1, none⟩ (.int .i64 z1)).setCell ⟨w.heap.size + 1, 2, none⟩ (.int .i64 z2)).setCell ⟨w.heap.size + 1, 3, none⟩ (.int .i64 z3)).setCell ⟨w.heap.size + 1, 4, none⟩ (.int .i64 z4)).setCell ⟨w.heap.size + 1, 5, none⟩ (.int .i64 z5)).setCell ⟨w.heap.size + 1, 6, none⟩ (.int .i64 z6)).setCell ⟨w.heap.size + 1, 7, none⟩ (.int .i64 z7)) = w9 at *
  refine wpAnyH_done (by kernel_rfl) ?_ _
  clear hHeld hHeld1 hHeld2 hHeld3 hHeld4
  obtain ⟨⟨q0, q1, q2, q3, q4, q5, q6, q7⟩, _⟩ := box8_cells HPn.out
  go_wp2
  refine bodyPost_ret (v := .agg #[.int .i64 z0, .int .i64 z1, .int .i64 z2, .int .i64 z3, .int .i64 z4, .int .i64 z5, .int .i64 z6, .int .i64 z7]) (by simp only [results, Try.results19]; simp [go_sem, q0, q1, q2, q3, q4, q5, q6, q7]) rfl ⟨rfl, HBn.out⟩
set_option maxRecDepth 100000 in
set_option maxHeartbeats 4000000 in
theorem gvI_2 (n d r l b g k a W m z0 z1 z2 z3 z4 z5 z6 z7 : Int) (KP : Hid (∀ w, Calls Try.prog 21 #[.agg #[.int .i64 2, .int .i64 n, .int .i64 d, .int .i64 r, .int .i64 l, .int .i64 b, .int .i64 g, .int .i64 k]] w fun e w' => e = .returned (.bool true) ∧ Below w.heap.size w w')) (KW : Hid (∀ w, Calls Try.prog 59 #[.agg #[.int .i64 2, .int .i64 n, .int .i64 d, .int .i64 r, .int .i64 l, .int .i64 b, .int .i64 g, .int .i64 k]] w fun e w' => e = .returned (.int .i64 W) ∧ Below w.heap.size w w')) (hm : Hid (min (max a 0) W = m)) (KG : Hid (∀ w, Calls Try.prog 60 #[.agg #[.int .i64 2, .int .i64 n, .int .i64 d, .int .i64 r, .int .i64 l, .int .i64 b, .int .i64 g, .int .i64 k], .int .i64 m] w fun e w' => e = .returned (.agg #[.int .i64 z0, .int .i64 z1, .int .i64 z2, .int .i64 z3, .int .i64 z4, .int .i64 z5, .int .i64 z6, .int .i64 z7]) ∧ Below w.heap.size w w')) (w : World) : Calls Try.prog 19 #[.agg #[.int .i64 2, .int .i64 n, .int .i64 d, .int .i64 r, .int .i64 l, .int .i64 b, .int .i64 g, .int .i64 k], .int .i64 a] w fun e w' => e = .returned (.agg #[.int .i64 z0, .int .i64 z1, .int .i64 z2, .int .i64 z3, .int .i64 z4, .int .i64 z5, .int .i64 z6, .int .i64 z7]) ∧ Below w.heap.size w w' := by
  have HB0 : Hid (Below w.heap.size w ((w.alloc (.cells #[.int .i64 2, .int .i64 n, .int .i64 d, .int .i64 r, .int .i64 l, .int .i64 b, .int .i64 g, .int .i64 k] 27)).alloc (.cells #[.int .i64 0, .int .i64 0, .int .i64 0, .int .i64 0, .int .i64 0, .int .i64 0, .int .i64 0, .int .i64 0] 27))) := bel_on (Nat.le_refl _) (alP _ _) (alP _ _)
  have HP0 : Hid (((w.alloc (.cells #[.int .i64 2, .int .i64 n, .int .i64 d, .int .i64 r, .int .i64 l, .int .i64 b, .int .i64 g, .int .i64 k] 27)).alloc (.cells #[.int .i64 0, .int .i64 0, .int .i64 0, .int .i64 0, .int .i64 0, .int .i64 0, .int .i64 0, .int .i64 0] 27)).heap[w.heap.size]? = some (.cells #[.int .i64 2, .int .i64 n, .int .i64 d, .int .i64 r, .int .i64 l, .int .i64 b, .int .i64 g, .int .i64 k] 27)) := row_on (heap_new w _) (alP _ _)
  have HZ0 : Hid (((w.alloc (.cells #[.int .i64 2, .int .i64 n, .int .i64 d, .int .i64 r, .int .i64 l, .int .i64 b, .int .i64 g, .int .i64 k] 27)).alloc (.cells #[.int .i64 0, .int .i64 0, .int .i64 0, .int .i64 0, .int .i64 0, .int .i64 0, .int .i64 0, .int .i64 0] 27)).heap[w.heap.size + 1]? = some (.cells #[.int .i64 0, .int .i64 0, .int .i64 0, .int .i64 0, .int .i64 0, .int .i64 0, .int .i64 0, .int .i64 0] 27)) := al_at (w.alloc (.cells #[.int .i64 2, .int .i64 n, .int .i64 d, .int .i64 r, .int .i64 l, .int .i64 b, .int .i64 g, .int .i64 k] 27)) _ (by simp)
  have p0 := box8_cells HP0.out
  go_enter Try.func19, Try.ntmps19
  go_wp2_with fail
  refine Calls.mono (KP.out _) ?_
  rintro e w1 ⟨rfl, hb⟩
  have HB1 : Hid (Below w.heap.size w w1) := bel_on (Nat.le_refl _) HB0.out hb
  have HP1 : Hid (w1.heap[w.heap.size]? = some (.cells #[.int .i64 2, .int .i64 n, .int .i64 d, .int .i64 r, .int .i64 l, .int .i64 b, .int .i64 g, .int .i64 k] 27)) := row_on HP0.out hb
  have HZ1 : Hid (w1.heap[w.heap.size + 1]? = some (.cells #[.int .i64 0, .int .i64 0, .int .i64 0, .int .i64 0, .int .i64 0, .int .i64 0, .int .i64 0, .int .i64 0] 27)) := row_on HZ0.out hb
  have p1 := box8_cells HP1.out
  clear hb HB0 HP0 HZ0 p0
  go_wp2_with fail
  refine Calls.mono (stI_2 n d r l b g k _) ?_
  rintro e w2 ⟨rfl, hb⟩
  have HB2 : Hid (Below w.heap.size w w2) := bel_on (Nat.le_refl _) HB1.out hb
  have HP2 : Hid (w2.heap[w.heap.size]? = some (.cells #[.int .i64 2, .int .i64 n, .int .i64 d, .int .i64 r, .int .i64 l, .int .i64 b, .int .i64 g, .int .i64 k] 27)) := row_on HP1.out hb
  have HZ2 : Hid (w2.heap[w.heap.size + 1]? = some (.cells #[.int .i64 0, .int .i64 0, .int .i64 0, .int .i64 0, .int .i64 0, .int .i64 0, .int .i64 0, .int .i64 0] 27)) := row_on HZ1.out hb
  have p2 := box8_cells HP2.out
  clear hb HB1 HP1 HZ1 p1
  have hl : w.heap.size + 1 < w2.heap.size := row_lt HZ2.out
  have HK0 : Hid (KV w (w2.alloc (.cells #[.func (.func 58) #[.agg #[.int .i64 2, .int .i64 n, .int .i64 d, .int .i64 r, .int .i64 l, .int .i64 b, .int .i64 g, .int .i64 k]] #[], .func (.func 59) #[.agg #[.int .i64 2, .int .i64 n, .int .i64 d, .int .i64 r, .int .i64 l, .int .i64 b, .int .i64 g, .int .i64 k]] #[], .func (.func 60) #[.agg #[.int .i64 2, .int .i64 n, .int .i64 d, .int .i64 r, .int .i64 l, .int .i64 b, .int .i64 g, .int .i64 k]] #[]] 61)).drew w2.heap.size (.func (.func 58) #[.agg #[.int .i64 2, .int .i64 n, .int .i64 d, .int .i64 r, .int .i64 l, .int .i64 b, .int .i64 g, .int .i64 k]] #[]) (.func (.func 59) #[.agg #[.int .i64 2, .int .i64 n, .int .i64 d, .int .i64 r, .int .i64 l, .int .i64 b, .int .i64 g, .int .i64 k]] #[]) (.func (.func 60) #[.agg #[.int .i64 2, .int .i64 n, .int .i64 d, .int .i64 r, .int .i64 l, .int .i64 b, .int .i64 g, .int .i64 k]] #[]) 61) := ⟨heap_new w2 _, Below.drew (bel_on (Nat.le_refl _) HB2.out (alP _ _))⟩
  have HZ0 : Hid ((w2.alloc (.cells #[.func (.func 58) #[.agg #[.int .i64 2, .int .i64 n, .int .i64 d, .int .i64 r, .int .i64 l, .int .i64 b, .int .i64 g, .int .i64 k]] #[], .func (.func 59) #[.agg #[.int .i64 2, .int .i64 n, .int .i64 d, .int .i64 r, .int .i64 l, .int .i64 b, .int .i64 g, .int .i64 k]] #[], .func (.func 60) #[.agg #[.int .i64 2, .int .i64 n, .int .i64 d, .int .i64 r, .int .i64 l, .int .i64 b, .int .i64 g, .int .i64 k]] #[]] 61)).drew.heap[w.heap.size + 1]? = some (.cells #[.int .i64 0, .int .i64 0, .int .i64 0, .int .i64 0, .int .i64 0, .int .i64 0, .int .i64 0, .int .i64 0] 27)) := (show (w2.alloc (.cells #[.func (.func 58) #[.agg #[.int .i64 2, .int .i64 n, .int .i64 d, .int .i64 r, .int .i64 l, .int .i64 b, .int .i64 g, .int .i64 k]] #[], .func (.func 59) #[.agg #[.int .i64 2, .int .i64 n, .int .i64 d, .int .i64 r, .int .i64 l, .int .i64 b, .int .i64 g, .int .i64 k]] #[], .func (.func 60) #[.agg #[.int .i64 2, .int .i64 n, .int .i64 d, .int .i64 r, .int .i64 l, .int .i64 b, .int .i64 g, .int .i64 k]] #[]] 61)).heap[w.heap.size + 1]? = some (.cells #[.int .i64 0, .int .i64 0, .int .i64 0, .int .i64 0, .int .i64 0, .int .i64 0, .int .i64 0, .int .i64 0] 27) from row_on HZ2.out (alP _ _))
  go_wp2_with fail
  clear p2 HB2 HP2 HZ2
  refine wp_region_held_drew (S := fun w' => w'.cell? ⟨w2.heap.size, 0, none⟩ = some (.func (.func 58) #[.agg #[.int .i64 2, .int .i64 n, .int .i64 d, .int .i64 r, .int .i64 l, .int .i64 b, .int .i64 g, .int .i64 k]] #[]) ∧ w'.cell? ⟨w2.heap.size, 1, none⟩ = some (.func (.func 59) #[.agg #[.int .i64 2, .int .i64 n, .int .i64 d, .int .i64 r, .int .i64 l, .int .i64 b, .int .i64 g, .int .i64 k]] #[]) ∧ w'.cell? ⟨w2.heap.size, 2, none⟩ = some (.func (.func 60) #[.agg #[.int .i64 2, .int .i64 n, .int .i64 d, .int .i64 r, .int .i64 l, .int .i64 b, .int .i64 g, .int .i64 k]] #[]) ∧ KV w w' w2.heap.size (.func (.func 58) #[.agg #[.int .i64 2, .int .i64 n, .int .i64 d, .int .i64 r, .int .i64 l, .int .i64 b, .int .i64 g, .int .i64 k]] #[]) (.func (.func 59) #[.agg #[.int .i64 2, .int .i64 n, .int .i64 d, .int .i64 r, .int .i64 l, .int .i64 b, .int .i64 g, .int .i64 k]] #[]) (.func (.func 60) #[.agg #[.int .i64 2, .int .i64 n, .int .i64 d, .int .i64 r, .int .i64 l, .int .i64 b, .int .i64 g, .int .i64 k]] #[]) 61) (by kernel_rfl) (kv_conj HK0.out) (fun hHeld => ?_)
  refine wpAnyH_take (i := 0) (v := ?_) rfl (by kernel_rfl) (by kernel_rfl) (by kernel_rfl) (fun _ _ _ h => h) (Or.inl ⟨by rfl, ?_⟩) (by assumption) ?_
  rotate_left
  · intro w_ hSw; (try dsimp only at hSw); go_simp <;> with_reducible rfl
  try simp only [Act.put, List.setIfInBounds_toArray, List.set_cons_zero, List.set_cons_succ, List.getElem_toArray, List.getElem_cons_zero, List.getElem_cons_succ]
  refine wpAnyH_take (i := 1) (v := ?_) rfl (by kernel_rfl) (by kernel_rfl) (by kernel_rfl) (fun _ _ _ h => h) (Or.inl ⟨by rfl, ?_⟩) (by assumption) ?_
  rotate_left
  · intro w_ hSw; (try dsimp only at hSw); go_simp <;> with_reducible rfl
  try simp only [Act.put, List.setIfInBounds_toArray, List.set_cons_zero, List.set_cons_succ, List.getElem_toArray, List.getElem_cons_zero, List.getElem_cons_succ]
  refine wpAnyH_take (i := 2) (v := ?_) rfl (by kernel_rfl) (by kernel_rfl) (by kernel_rfl) (fun _ _ _ h => h) (Or.inl ⟨by rfl, ?_⟩) (by assumption) ?_
  rotate_left
  · intro w_ hSw; (try dsimp only at hSw); go_simp <;> with_reducible rfl
  try simp only [Act.put, List.setIfInBounds_toArray, List.set_cons_zero, List.set_cons_succ, List.getElem_toArray, List.getElem_cons_zero, List.getElem_cons_succ]
  refine wpAnyH_take (i := 3) (v := ?_) rfl (by kernel_rfl) (by kernel_rfl) (by kernel_rfl) (fun _ _ _ h => h) (Or.inl ⟨by rfl, ?_⟩) (by assumption) ?_
  rotate_left
  · intro w_ hSw; (try dsimp only at hSw); go_simp <;> with_reducible rfl
  try simp only [Act.put, List.setIfInBounds_toArray, List.set_cons_zero, List.set_cons_succ, List.getElem_toArray, List.getElem_cons_zero, List.getElem_cons_succ]
  refine wpAnyH_take (i := 6) (v := ?_) rfl (by kernel_rfl) (by kernel_rfl) (by kernel_rfl) (fun _ _ _ h => h) (Or.inl ⟨by rfl, ?_⟩) (by assumption) ?_
  rotate_left
  · intro w_ hSw; (try dsimp only at hSw); go_simp <;> with_reducible rfl
  try simp only [Act.put, List.setIfInBounds_toArray, List.set_cons_zero, List.set_cons_succ, List.getElem_toArray, List.getElem_cons_zero, List.getElem_cons_succ]
  refine wpAnyH_ready (rs := [4]) (by kernel_rfl) (by simp) ?_
  refine AllReadyH.cons rfl (fun J hJ => ?_) AllReadyH.nil
  go_simp
  go_at_call 59
  refine Calls.mono (KW.out _) ?_
  rintro e v1 ⟨rfl, hbc⟩
  have HK1 : Hid (KV w v1 w2.heap.size (.func (.func 58) #[.agg #[.int .i64 2, .int .i64 n, .int .i64 d, .int .i64 r, .int .i64 l, .int .i64 b, .int .i64 g, .int .i64 k]] #[]) (.func (.func 59) #[.agg #[.int .i64 2, .int .i64 n, .int .i64 d, .int .i64 r, .int .i64 l, .int .i64 b, .int .i64 g, .int .i64 k]] #[]) (.func (.func 60) #[.agg #[.int .i64 2, .int .i64 n, .int .i64 d, .int .i64 r, .int .i64 l, .int .i64 b, .int .i64 g, .int .i64 k]] #[]) 61) := HK0.out.on hbc
  have HZ1 : Hid (v1.heap[w.heap.size + 1]? = some (.cells #[.int .i64 0, .int .i64 0, .int .i64 0, .int .i64 0, .int .i64 0, .int .i64 0, .int .i64 0, .int .i64 0] 27)) := row_on HZ0.out hbc
  go_wp2_with fail
  refine hJ.out _ _ ?_ (fun hHeld1 => ?_)
  · exact kv_conj HK1.out
  clear hJ J hbc HK0 HZ0
  try simp only [Act.put, List.setIfInBounds_toArray, List.set_cons_zero, List.set_cons_succ, List.getElem_toArray, List.getElem_cons_zero, List.getElem_cons_succ]
  refine wpAnyH_take (i := 5) (v := ?_) rfl (by kernel_rfl) (by kernel_rfl) (by kernel_rfl) (fun _ _ _ h => h) (Or.inl ⟨by rfl, ?_⟩) (by assumption) ?_
  rotate_left
  · intro w_ hSw; (try dsimp only at hSw); go_simp <;> with_reducible rfl
  try simp only [Act.put, List.setIfInBounds_toArray, List.set_cons_zero, List.set_cons_succ, List.getElem_toArray, List.getElem_cons_zero, List.getElem_cons_succ]
  refine wpAnyH_ready (rs := [7]) (by kernel_rfl) (by simp) ?_
  refine AllReadyH.cons rfl (fun J hJ => ?_) AllReadyH.nil
  go_simp
  go_at_call 39
  refine Calls.mono (intoI 0 W a m hm.out _) ?_
  rintro e v2 ⟨rfl, hbc⟩
  have HK2 : Hid (KV w v2 w2.heap.size (.func (.func 58) #[.agg #[.int .i64 2, .int .i64 n, .int .i64 d, .int .i64 r, .int .i64 l, .int .i64 b, .int .i64 g, .int .i64 k]] #[]) (.func (.func 59) #[.agg #[.int .i64 2, .int .i64 n, .int .i64 d, .int .i64 r, .int .i64 l, .int .i64 b, .int .i64 g, .int .i64 k]] #[]) (.func (.func 60) #[.agg #[.int .i64 2, .int .i64 n, .int .i64 d, .int .i64 r, .int .i64 l, .int .i64 b, .int .i64 g, .int .i64 k]] #[]) 61) := HK1.out.on hbc
  have HZ2 : Hid (v2.heap[w.heap.size + 1]? = some (.cells #[.int .i64 0, .int .i64 0, .int .i64 0, .int .i64 0, .int .i64 0, .int .i64 0, .int .i64 0, .int .i64 0] 27)) := row_on HZ1.out hbc
  go_wp2_with fail
  refine hJ.out _ _ ?_ (fun hHeld2 => ?_)
  · exact kv_conj HK2.out
  clear hJ J hbc HK1 HZ1
  try simp only [Act.put, List.setIfInBounds_toArray, List.set_cons_zero, List.set_cons_succ, List.getElem_toArray, List.getElem_cons_zero, List.getElem_cons_succ]
  refine wpAnyH_ready (rs := [8]) (by kernel_rfl) (by simp) ?_
  refine AllReadyH.cons rfl (fun J hJ => ?_) AllReadyH.nil
  go_simp
  go_at_call 60
  refine Calls.mono (KG.out _) ?_
  rintro e v3 ⟨rfl, hbc⟩
  have HK3 : Hid (KV w v3 w2.heap.size (.func (.func 58) #[.agg #[.int .i64 2, .int .i64 n, .int .i64 d, .int .i64 r, .int .i64 l, .int .i64 b, .int .i64 g, .int .i64 k]] #[]) (.func (.func 59) #[.agg #[.int .i64 2, .int .i64 n, .int .i64 d, .int .i64 r, .int .i64 l, .int .i64 b, .int .i64 g, .int .i64 k]] #[]) (.func (.func 60) #[.agg #[.int .i64 2, .int .i64 n, .int .i64 d, .int .i64 r, .int .i64 l, .int .i64 b, .int .i64 g, .int .i64 k]] #[]) 61) := HK2.out.on hbc
  have HZ3 : Hid (v3.heap[w.heap.size + 1]? = some (.cells #[.int .i64 0, .int .i64 0, .int .i64 0, .int .i64 0, .int .i64 0, .int .i64 0, .int .i64 0, .int .i64 0] 27)) := row_on HZ2.out hbc
  go_wp2_with fail
  refine hJ.out _ _ ?_ (fun hHeld3 => ?_)
  · exact kv_conj HK3.out
  clear hJ J hbc HK2 HZ2
  try simp only [Act.put, List.setIfInBounds_toArray, List.set_cons_zero, List.set_cons_succ, List.getElem_toArray, List.getElem_cons_zero, List.getElem_cons_succ]
  refine wpAnyH_ready (rs := [9]) (by kernel_rfl) (by simp) ?_
  refine AllReadyH.cons rfl (fun J hJ => ?_) AllReadyH.nil
  have kz := box8_cells HZ3.out
  go_simp
  have HPn : Hid (((((((((v3.setCell ⟨w.heap.size + 1, 0, none⟩ (.int .i64 z0)).setCell ⟨w.heap.size + 1, 1, none⟩ (.int .i64 z1)).setCell ⟨w.heap.size + 1, 2, none⟩ (.int .i64 z2)).setCell ⟨w.heap.size + 1, 3, none⟩ (.int .i64 z3)).setCell ⟨w.heap.size + 1, 4, none⟩ (.int .i64 z4)).setCell ⟨w.heap.size + 1, 5, none⟩ (.int .i64 z5)).setCell ⟨w.heap.size + 1, 6, none⟩ (.int .i64 z6)).setCell ⟨w.heap.size + 1, 7, none⟩ (.int .i64 z7)).heap[w.heap.size + 1]? = some (.cells #[.int .i64 z0, .int .i64 z1, .int .i64 z2, .int .i64 z3, .int .i64 z4, .int .i64 z5, .int .i64 z6, .int .i64 z7] 27)) := set8_row z0 z1 z2 z3 z4 z5 z6 z7 HZ3.out
  have HBn : Hid (Below w.heap.size w ((((((((v3.setCell ⟨w.heap.size + 1, 0, none⟩ (.int .i64 z0)).setCell ⟨w.heap.size + 1, 1, none⟩ (.int .i64 z1)).setCell ⟨w.heap.size + 1, 2, none⟩ (.int .i64 z2)).setCell ⟨w.heap.size + 1, 3, none⟩ (.int .i64 z3)).setCell ⟨w.heap.size + 1, 4, none⟩ (.int .i64 z4)).setCell ⟨w.heap.size + 1, 5, none⟩ (.int .i64 z5)).setCell ⟨w.heap.size + 1, 6, none⟩ (.int .i64 z6)).setCell ⟨w.heap.size + 1, 7, none⟩ (.int .i64 z7))) := set8_bel z0 z1 z2 z3 z4 z5 z6 z7 HK3.out.2 (Nat.le_succ _)
  have HKn : Hid (KV w ((((((((v3.setCell ⟨w.heap.size + 1, 0, none⟩ (.int .i64 z0)).setCell ⟨w.heap.size + 1, 1, none⟩ (.int .i64 z1)).setCell ⟨w.heap.size + 1, 2, none⟩ (.int .i64 z2)).setCell ⟨w.heap.size + 1, 3, none⟩ (.int .i64 z3)).setCell ⟨w.heap.size + 1, 4, none⟩ (.int .i64 z4)).setCell ⟨w.heap.size + 1, 5, none⟩ (.int .i64 z5)).setCell ⟨w.heap.size + 1, 6, none⟩ (.int .i64 z6)).setCell ⟨w.heap.size + 1, 7, none⟩ (.int .i64 z7)) w2.heap.size (.func (.func 58) #[.agg #[.int .i64 2, .int .i64 n, .int .i64 d, .int .i64 r, .int .i64 l, .int .i64 b, .int .i64 g, .int .i64 k]] #[]) (.func (.func 59) #[.agg #[.int .i64 2, .int .i64 n, .int .i64 d, .int .i64 r, .int .i64 l, .int .i64 b, .int .i64 g, .int .i64 k]] #[]) (.func (.func 60) #[.agg #[.int .i64 2, .int .i64 n, .int .i64 d, .int .i64 r, .int .i64 l, .int .i64 b, .int .i64 g, .int .i64 k]] #[]) 61) := ⟨set8_far z0 z1 z2 z3 z4 z5 z6 z7 HK3.out.1 (by omega), HBn.out⟩
  refine hJ.out _ _ (kv_conj HKn.out) (fun hHeld4 => ?_)
  clear hJ J kz HK3 HZ3
  try simp only [Act.put, List.setIfInBounds_toArray, List.set_cons_zero, List.set_cons_succ, List.getElem_toArray, List.getElem_cons_zero, List.getElem_cons_succ]
  generalize ((((((((v3.setCell ⟨w.heap.size + 1, 0, none⟩ (.int .i64 z0)).setCell ⟨w.heap.size + 1, 1, none⟩ (.int .i64 z1)).setCell ⟨w.heap.size + 1, 2, none⟩ (.int .i64 z2)).setCell ⟨w.heap.size + 1, 3, none⟩ (.int .i64 z3)).setCell ⟨w.heap.size + 1, 4, none⟩ (.int .i64 z4)).setCell ⟨w.heap.size + 1, 5, none⟩ (.int .i64 z5)).setCell ⟨w.heap.size + 1, 6, none⟩ (.int .i64 z6)).setCell ⟨w.heap.size + 1, 7, none⟩ (.int .i64 z7)) = w9 at *
  refine wpAnyH_done (by kernel_rfl) ?_ _
  clear hHeld hHeld1 hHeld2 hHeld3 hHeld4
  obtain ⟨⟨q0, q1, q2, q3, q4, q5, q6, q7⟩, _⟩ := box8_cells HPn.out
  go_wp2
  refine bodyPost_ret (v := .agg #[.int .i64 z0, .int .i64 z1, .int .i64 z2, .int .i64 z3, .int .i64 z4, .int .i64 z5, .int .i64 z6, .int .i64 z7]) (by simp only [results, Try.results19]; simp [go_sem, q0, q1, q2, q3, q4, q5, q6, q7]) rfl ⟨rfl, HBn.out⟩
set_option maxRecDepth 100000 in
set_option maxHeartbeats 4000000 in
theorem gvI_3 (n d r l b g k a W m z0 z1 z2 z3 z4 z5 z6 z7 : Int) (KP : Hid (∀ w, Calls Try.prog 21 #[.agg #[.int .i64 3, .int .i64 n, .int .i64 d, .int .i64 r, .int .i64 l, .int .i64 b, .int .i64 g, .int .i64 k]] w fun e w' => e = .returned (.bool true) ∧ Below w.heap.size w w')) (KW : Hid (∀ w, Calls Try.prog 62 #[.agg #[.int .i64 3, .int .i64 n, .int .i64 d, .int .i64 r, .int .i64 l, .int .i64 b, .int .i64 g, .int .i64 k]] w fun e w' => e = .returned (.int .i64 W) ∧ Below w.heap.size w w')) (hm : Hid (min (max a 0) W = m)) (KG : Hid (∀ w, Calls Try.prog 63 #[.agg #[.int .i64 3, .int .i64 n, .int .i64 d, .int .i64 r, .int .i64 l, .int .i64 b, .int .i64 g, .int .i64 k], .int .i64 m] w fun e w' => e = .returned (.agg #[.int .i64 z0, .int .i64 z1, .int .i64 z2, .int .i64 z3, .int .i64 z4, .int .i64 z5, .int .i64 z6, .int .i64 z7]) ∧ Below w.heap.size w w')) (w : World) : Calls Try.prog 19 #[.agg #[.int .i64 3, .int .i64 n, .int .i64 d, .int .i64 r, .int .i64 l, .int .i64 b, .int .i64 g, .int .i64 k], .int .i64 a] w fun e w' => e = .returned (.agg #[.int .i64 z0, .int .i64 z1, .int .i64 z2, .int .i64 z3, .int .i64 z4, .int .i64 z5, .int .i64 z6, .int .i64 z7]) ∧ Below w.heap.size w w' := by
  have HB0 : Hid (Below w.heap.size w ((w.alloc (.cells #[.int .i64 3, .int .i64 n, .int .i64 d, .int .i64 r, .int .i64 l, .int .i64 b, .int .i64 g, .int .i64 k] 27)).alloc (.cells #[.int .i64 0, .int .i64 0, .int .i64 0, .int .i64 0, .int .i64 0, .int .i64 0, .int .i64 0, .int .i64 0] 27))) := bel_on (Nat.le_refl _) (alP _ _) (alP _ _)
  have HP0 : Hid (((w.alloc (.cells #[.int .i64 3, .int .i64 n, .int .i64 d, .int .i64 r, .int .i64 l, .int .i64 b, .int .i64 g, .int .i64 k] 27)).alloc (.cells #[.int .i64 0, .int .i64 0, .int .i64 0, .int .i64 0, .int .i64 0, .int .i64 0, .int .i64 0, .int .i64 0] 27)).heap[w.heap.size]? = some (.cells #[.int .i64 3, .int .i64 n, .int .i64 d, .int .i64 r, .int .i64 l, .int .i64 b, .int .i64 g, .int .i64 k] 27)) := row_on (heap_new w _) (alP _ _)
  have HZ0 : Hid (((w.alloc (.cells #[.int .i64 3, .int .i64 n, .int .i64 d, .int .i64 r, .int .i64 l, .int .i64 b, .int .i64 g, .int .i64 k] 27)).alloc (.cells #[.int .i64 0, .int .i64 0, .int .i64 0, .int .i64 0, .int .i64 0, .int .i64 0, .int .i64 0, .int .i64 0] 27)).heap[w.heap.size + 1]? = some (.cells #[.int .i64 0, .int .i64 0, .int .i64 0, .int .i64 0, .int .i64 0, .int .i64 0, .int .i64 0, .int .i64 0] 27)) := al_at (w.alloc (.cells #[.int .i64 3, .int .i64 n, .int .i64 d, .int .i64 r, .int .i64 l, .int .i64 b, .int .i64 g, .int .i64 k] 27)) _ (by simp)
  have p0 := box8_cells HP0.out
  go_enter Try.func19, Try.ntmps19
  go_wp2_with fail
  refine Calls.mono (KP.out _) ?_
  rintro e w1 ⟨rfl, hb⟩
  have HB1 : Hid (Below w.heap.size w w1) := bel_on (Nat.le_refl _) HB0.out hb
  have HP1 : Hid (w1.heap[w.heap.size]? = some (.cells #[.int .i64 3, .int .i64 n, .int .i64 d, .int .i64 r, .int .i64 l, .int .i64 b, .int .i64 g, .int .i64 k] 27)) := row_on HP0.out hb
  have HZ1 : Hid (w1.heap[w.heap.size + 1]? = some (.cells #[.int .i64 0, .int .i64 0, .int .i64 0, .int .i64 0, .int .i64 0, .int .i64 0, .int .i64 0, .int .i64 0] 27)) := row_on HZ0.out hb
  have p1 := box8_cells HP1.out
  clear hb HB0 HP0 HZ0 p0
  go_wp2_with fail
  refine Calls.mono (stI_3 n d r l b g k _) ?_
  rintro e w2 ⟨rfl, hb⟩
  have HB2 : Hid (Below w.heap.size w w2) := bel_on (Nat.le_refl _) HB1.out hb
  have HP2 : Hid (w2.heap[w.heap.size]? = some (.cells #[.int .i64 3, .int .i64 n, .int .i64 d, .int .i64 r, .int .i64 l, .int .i64 b, .int .i64 g, .int .i64 k] 27)) := row_on HP1.out hb
  have HZ2 : Hid (w2.heap[w.heap.size + 1]? = some (.cells #[.int .i64 0, .int .i64 0, .int .i64 0, .int .i64 0, .int .i64 0, .int .i64 0, .int .i64 0, .int .i64 0] 27)) := row_on HZ1.out hb
  have p2 := box8_cells HP2.out
  clear hb HB1 HP1 HZ1 p1
  have hl : w.heap.size + 1 < w2.heap.size := row_lt HZ2.out
  have HK0 : Hid (KV w (w2.alloc (.cells #[.func (.func 61) #[.agg #[.int .i64 3, .int .i64 n, .int .i64 d, .int .i64 r, .int .i64 l, .int .i64 b, .int .i64 g, .int .i64 k]] #[], .func (.func 62) #[.agg #[.int .i64 3, .int .i64 n, .int .i64 d, .int .i64 r, .int .i64 l, .int .i64 b, .int .i64 g, .int .i64 k]] #[], .func (.func 63) #[.agg #[.int .i64 3, .int .i64 n, .int .i64 d, .int .i64 r, .int .i64 l, .int .i64 b, .int .i64 g, .int .i64 k]] #[]] 61)).drew w2.heap.size (.func (.func 61) #[.agg #[.int .i64 3, .int .i64 n, .int .i64 d, .int .i64 r, .int .i64 l, .int .i64 b, .int .i64 g, .int .i64 k]] #[]) (.func (.func 62) #[.agg #[.int .i64 3, .int .i64 n, .int .i64 d, .int .i64 r, .int .i64 l, .int .i64 b, .int .i64 g, .int .i64 k]] #[]) (.func (.func 63) #[.agg #[.int .i64 3, .int .i64 n, .int .i64 d, .int .i64 r, .int .i64 l, .int .i64 b, .int .i64 g, .int .i64 k]] #[]) 61) := ⟨heap_new w2 _, Below.drew (bel_on (Nat.le_refl _) HB2.out (alP _ _))⟩
  have HZ0 : Hid ((w2.alloc (.cells #[.func (.func 61) #[.agg #[.int .i64 3, .int .i64 n, .int .i64 d, .int .i64 r, .int .i64 l, .int .i64 b, .int .i64 g, .int .i64 k]] #[], .func (.func 62) #[.agg #[.int .i64 3, .int .i64 n, .int .i64 d, .int .i64 r, .int .i64 l, .int .i64 b, .int .i64 g, .int .i64 k]] #[], .func (.func 63) #[.agg #[.int .i64 3, .int .i64 n, .int .i64 d, .int .i64 r, .int .i64 l, .int .i64 b, .int .i64 g, .int .i64 k]] #[]] 61)).drew.heap[w.heap.size + 1]? = some (.cells #[.int .i64 0, .int .i64 0, .int .i64 0, .int .i64 0, .int .i64 0, .int .i64 0, .int .i64 0, .int .i64 0] 27)) := (show (w2.alloc (.cells #[.func (.func 61) #[.agg #[.int .i64 3, .int .i64 n, .int .i64 d, .int .i64 r, .int .i64 l, .int .i64 b, .int .i64 g, .int .i64 k]] #[], .func (.func 62) #[.agg #[.int .i64 3, .int .i64 n, .int .i64 d, .int .i64 r, .int .i64 l, .int .i64 b, .int .i64 g, .int .i64 k]] #[], .func (.func 63) #[.agg #[.int .i64 3, .int .i64 n, .int .i64 d, .int .i64 r, .int .i64 l, .int .i64 b, .int .i64 g, .int .i64 k]] #[]] 61)).heap[w.heap.size + 1]? = some (.cells #[.int .i64 0, .int .i64 0, .int .i64 0, .int .i64 0, .int .i64 0, .int .i64 0, .int .i64 0, .int .i64 0] 27) from row_on HZ2.out (alP _ _))
  go_wp2_with fail
  clear p2 HB2 HP2 HZ2
  refine wp_region_held_drew (S := fun w' => w'.cell? ⟨w2.heap.size, 0, none⟩ = some (.func (.func 61) #[.agg #[.int .i64 3, .int .i64 n, .int .i64 d, .int .i64 r, .int .i64 l, .int .i64 b, .int .i64 g, .int .i64 k]] #[]) ∧ w'.cell? ⟨w2.heap.size, 1, none⟩ = some (.func (.func 62) #[.agg #[.int .i64 3, .int .i64 n, .int .i64 d, .int .i64 r, .int .i64 l, .int .i64 b, .int .i64 g, .int .i64 k]] #[]) ∧ w'.cell? ⟨w2.heap.size, 2, none⟩ = some (.func (.func 63) #[.agg #[.int .i64 3, .int .i64 n, .int .i64 d, .int .i64 r, .int .i64 l, .int .i64 b, .int .i64 g, .int .i64 k]] #[]) ∧ KV w w' w2.heap.size (.func (.func 61) #[.agg #[.int .i64 3, .int .i64 n, .int .i64 d, .int .i64 r, .int .i64 l, .int .i64 b, .int .i64 g, .int .i64 k]] #[]) (.func (.func 62) #[.agg #[.int .i64 3, .int .i64 n, .int .i64 d, .int .i64 r, .int .i64 l, .int .i64 b, .int .i64 g, .int .i64 k]] #[]) (.func (.func 63) #[.agg #[.int .i64 3, .int .i64 n, .int .i64 d, .int .i64 r, .int .i64 l, .int .i64 b, .int .i64 g, .int .i64 k]] #[]) 61) (by kernel_rfl) (kv_conj HK0.out) (fun hHeld => ?_)
  refine wpAnyH_take (i := 0) (v := ?_) rfl (by kernel_rfl) (by kernel_rfl) (by kernel_rfl) (fun _ _ _ h => h) (Or.inl ⟨by rfl, ?_⟩) (by assumption) ?_
  rotate_left
  · intro w_ hSw; (try dsimp only at hSw); go_simp <;> with_reducible rfl
  try simp only [Act.put, List.setIfInBounds_toArray, List.set_cons_zero, List.set_cons_succ, List.getElem_toArray, List.getElem_cons_zero, List.getElem_cons_succ]
  refine wpAnyH_take (i := 1) (v := ?_) rfl (by kernel_rfl) (by kernel_rfl) (by kernel_rfl) (fun _ _ _ h => h) (Or.inl ⟨by rfl, ?_⟩) (by assumption) ?_
  rotate_left
  · intro w_ hSw; (try dsimp only at hSw); go_simp <;> with_reducible rfl
  try simp only [Act.put, List.setIfInBounds_toArray, List.set_cons_zero, List.set_cons_succ, List.getElem_toArray, List.getElem_cons_zero, List.getElem_cons_succ]
  refine wpAnyH_take (i := 2) (v := ?_) rfl (by kernel_rfl) (by kernel_rfl) (by kernel_rfl) (fun _ _ _ h => h) (Or.inl ⟨by rfl, ?_⟩) (by assumption) ?_
  rotate_left
  · intro w_ hSw; (try dsimp only at hSw); go_simp <;> with_reducible rfl
  try simp only [Act.put, List.setIfInBounds_toArray, List.set_cons_zero, List.set_cons_succ, List.getElem_toArray, List.getElem_cons_zero, List.getElem_cons_succ]
  refine wpAnyH_take (i := 3) (v := ?_) rfl (by kernel_rfl) (by kernel_rfl) (by kernel_rfl) (fun _ _ _ h => h) (Or.inl ⟨by rfl, ?_⟩) (by assumption) ?_
  rotate_left
  · intro w_ hSw; (try dsimp only at hSw); go_simp <;> with_reducible rfl
  try simp only [Act.put, List.setIfInBounds_toArray, List.set_cons_zero, List.set_cons_succ, List.getElem_toArray, List.getElem_cons_zero, List.getElem_cons_succ]
  refine wpAnyH_take (i := 6) (v := ?_) rfl (by kernel_rfl) (by kernel_rfl) (by kernel_rfl) (fun _ _ _ h => h) (Or.inl ⟨by rfl, ?_⟩) (by assumption) ?_
  rotate_left
  · intro w_ hSw; (try dsimp only at hSw); go_simp <;> with_reducible rfl
  try simp only [Act.put, List.setIfInBounds_toArray, List.set_cons_zero, List.set_cons_succ, List.getElem_toArray, List.getElem_cons_zero, List.getElem_cons_succ]
  refine wpAnyH_ready (rs := [4]) (by kernel_rfl) (by simp) ?_
  refine AllReadyH.cons rfl (fun J hJ => ?_) AllReadyH.nil
  go_simp
  go_at_call 62
  refine Calls.mono (KW.out _) ?_
  rintro e v1 ⟨rfl, hbc⟩
  have HK1 : Hid (KV w v1 w2.heap.size (.func (.func 61) #[.agg #[.int .i64 3, .int .i64 n, .int .i64 d, .int .i64 r, .int .i64 l, .int .i64 b, .int .i64 g, .int .i64 k]] #[]) (.func (.func 62) #[.agg #[.int .i64 3, .int .i64 n, .int .i64 d, .int .i64 r, .int .i64 l, .int .i64 b, .int .i64 g, .int .i64 k]] #[]) (.func (.func 63) #[.agg #[.int .i64 3, .int .i64 n, .int .i64 d, .int .i64 r, .int .i64 l, .int .i64 b, .int .i64 g, .int .i64 k]] #[]) 61) := HK0.out.on hbc
  have HZ1 : Hid (v1.heap[w.heap.size + 1]? = some (.cells #[.int .i64 0, .int .i64 0, .int .i64 0, .int .i64 0, .int .i64 0, .int .i64 0, .int .i64 0, .int .i64 0] 27)) := row_on HZ0.out hbc
  go_wp2_with fail
  refine hJ.out _ _ ?_ (fun hHeld1 => ?_)
  · exact kv_conj HK1.out
  clear hJ J hbc HK0 HZ0
  try simp only [Act.put, List.setIfInBounds_toArray, List.set_cons_zero, List.set_cons_succ, List.getElem_toArray, List.getElem_cons_zero, List.getElem_cons_succ]
  refine wpAnyH_take (i := 5) (v := ?_) rfl (by kernel_rfl) (by kernel_rfl) (by kernel_rfl) (fun _ _ _ h => h) (Or.inl ⟨by rfl, ?_⟩) (by assumption) ?_
  rotate_left
  · intro w_ hSw; (try dsimp only at hSw); go_simp <;> with_reducible rfl
  try simp only [Act.put, List.setIfInBounds_toArray, List.set_cons_zero, List.set_cons_succ, List.getElem_toArray, List.getElem_cons_zero, List.getElem_cons_succ]
  refine wpAnyH_ready (rs := [7]) (by kernel_rfl) (by simp) ?_
  refine AllReadyH.cons rfl (fun J hJ => ?_) AllReadyH.nil
  go_simp
  go_at_call 39
  refine Calls.mono (intoI 0 W a m hm.out _) ?_
  rintro e v2 ⟨rfl, hbc⟩
  have HK2 : Hid (KV w v2 w2.heap.size (.func (.func 61) #[.agg #[.int .i64 3, .int .i64 n, .int .i64 d, .int .i64 r, .int .i64 l, .int .i64 b, .int .i64 g, .int .i64 k]] #[]) (.func (.func 62) #[.agg #[.int .i64 3, .int .i64 n, .int .i64 d, .int .i64 r, .int .i64 l, .int .i64 b, .int .i64 g, .int .i64 k]] #[]) (.func (.func 63) #[.agg #[.int .i64 3, .int .i64 n, .int .i64 d, .int .i64 r, .int .i64 l, .int .i64 b, .int .i64 g, .int .i64 k]] #[]) 61) := HK1.out.on hbc
  have HZ2 : Hid (v2.heap[w.heap.size + 1]? = some (.cells #[.int .i64 0, .int .i64 0, .int .i64 0, .int .i64 0, .int .i64 0, .int .i64 0, .int .i64 0, .int .i64 0] 27)) := row_on HZ1.out hbc
  go_wp2_with fail
  refine hJ.out _ _ ?_ (fun hHeld2 => ?_)
  · exact kv_conj HK2.out
  clear hJ J hbc HK1 HZ1
  try simp only [Act.put, List.setIfInBounds_toArray, List.set_cons_zero, List.set_cons_succ, List.getElem_toArray, List.getElem_cons_zero, List.getElem_cons_succ]
  refine wpAnyH_ready (rs := [8]) (by kernel_rfl) (by simp) ?_
  refine AllReadyH.cons rfl (fun J hJ => ?_) AllReadyH.nil
  go_simp
  go_at_call 63
  refine Calls.mono (KG.out _) ?_
  rintro e v3 ⟨rfl, hbc⟩
  have HK3 : Hid (KV w v3 w2.heap.size (.func (.func 61) #[.agg #[.int .i64 3, .int .i64 n, .int .i64 d, .int .i64 r, .int .i64 l, .int .i64 b, .int .i64 g, .int .i64 k]] #[]) (.func (.func 62) #[.agg #[.int .i64 3, .int .i64 n, .int .i64 d, .int .i64 r, .int .i64 l, .int .i64 b, .int .i64 g, .int .i64 k]] #[]) (.func (.func 63) #[.agg #[.int .i64 3, .int .i64 n, .int .i64 d, .int .i64 r, .int .i64 l, .int .i64 b, .int .i64 g, .int .i64 k]] #[]) 61) := HK2.out.on hbc
  have HZ3 : Hid (v3.heap[w.heap.size + 1]? = some (.cells #[.int .i64 0, .int .i64 0, .int .i64 0, .int .i64 0, .int .i64 0, .int .i64 0, .int .i64 0, .int .i64 0] 27)) := row_on HZ2.out hbc
  go_wp2_with fail
  refine hJ.out _ _ ?_ (fun hHeld3 => ?_)
  · exact kv_conj HK3.out
  clear hJ J hbc HK2 HZ2
  try simp only [Act.put, List.setIfInBounds_toArray, List.set_cons_zero, List.set_cons_succ, List.getElem_toArray, List.getElem_cons_zero, List.getElem_cons_succ]
  refine wpAnyH_ready (rs := [9]) (by kernel_rfl) (by simp) ?_
  refine AllReadyH.cons rfl (fun J hJ => ?_) AllReadyH.nil
  have kz := box8_cells HZ3.out
  go_simp
  have HPn : Hid (((((((((v3.setCell ⟨w.heap.size + 1, 0, none⟩ (.int .i64 z0)).setCell ⟨w.heap.size + 1, 1, none⟩ (.int .i64 z1)).setCell ⟨w.heap.size + 1, 2, none⟩ (.int .i64 z2)).setCell ⟨w.heap.size + 1, 3, none⟩ (.int .i64 z3)).setCell ⟨w.heap.size + 1, 4, none⟩ (.int .i64 z4)).setCell ⟨w.heap.size + 1, 5, none⟩ (.int .i64 z5)).setCell ⟨w.heap.size + 1, 6, none⟩ (.int .i64 z6)).setCell ⟨w.heap.size + 1, 7, none⟩ (.int .i64 z7)).heap[w.heap.size + 1]? = some (.cells #[.int .i64 z0, .int .i64 z1, .int .i64 z2, .int .i64 z3, .int .i64 z4, .int .i64 z5, .int .i64 z6, .int .i64 z7] 27)) := set8_row z0 z1 z2 z3 z4 z5 z6 z7 HZ3.out
  have HBn : Hid (Below w.heap.size w ((((((((v3.setCell ⟨w.heap.size + 1, 0, none⟩ (.int .i64 z0)).setCell ⟨w.heap.size + 1, 1, none⟩ (.int .i64 z1)).setCell ⟨w.heap.size + 1, 2, none⟩ (.int .i64 z2)).setCell ⟨w.heap.size + 1, 3, none⟩ (.int .i64 z3)).setCell ⟨w.heap.size + 1, 4, none⟩ (.int .i64 z4)).setCell ⟨w.heap.size + 1, 5, none⟩ (.int .i64 z5)).setCell ⟨w.heap.size + 1, 6, none⟩ (.int .i64 z6)).setCell ⟨w.heap.size + 1, 7, none⟩ (.int .i64 z7))) := set8_bel z0 z1 z2 z3 z4 z5 z6 z7 HK3.out.2 (Nat.le_succ _)
  have HKn : Hid (KV w ((((((((v3.setCell ⟨w.heap.size + 1, 0, none⟩ (.int .i64 z0)).setCell ⟨w.heap.size + 1, 1, none⟩ (.int .i64 z1)).setCell ⟨w.heap.size + 1, 2, none⟩ (.int .i64 z2)).setCell ⟨w.heap.size + 1, 3, none⟩ (.int .i64 z3)).setCell ⟨w.heap.size + 1, 4, none⟩ (.int .i64 z4)).setCell ⟨w.heap.size + 1, 5, none⟩ (.int .i64 z5)).setCell ⟨w.heap.size + 1, 6, none⟩ (.int .i64 z6)).setCell ⟨w.heap.size + 1, 7, none⟩ (.int .i64 z7)) w2.heap.size (.func (.func 61) #[.agg #[.int .i64 3, .int .i64 n, .int .i64 d, .int .i64 r, .int .i64 l, .int .i64 b, .int .i64 g, .int .i64 k]] #[]) (.func (.func 62) #[.agg #[.int .i64 3, .int .i64 n, .int .i64 d, .int .i64 r, .int .i64 l, .int .i64 b, .int .i64 g, .int .i64 k]] #[]) (.func (.func 63) #[.agg #[.int .i64 3, .int .i64 n, .int .i64 d, .int .i64 r, .int .i64 l, .int .i64 b, .int .i64 g, .int .i64 k]] #[]) 61) := ⟨set8_far z0 z1 z2 z3 z4 z5 z6 z7 HK3.out.1 (by omega), HBn.out⟩
  refine hJ.out _ _ (kv_conj HKn.out) (fun hHeld4 => ?_)
  clear hJ J kz HK3 HZ3
  try simp only [Act.put, List.setIfInBounds_toArray, List.set_cons_zero, List.set_cons_succ, List.getElem_toArray, List.getElem_cons_zero, List.getElem_cons_succ]
  generalize ((((((((v3.setCell ⟨w.heap.size + 1, 0, none⟩ (.int .i64 z0)).setCell ⟨w.heap.size + 1, 1, none⟩ (.int .i64 z1)).setCell ⟨w.heap.size + 1, 2, none⟩ (.int .i64 z2)).setCell ⟨w.heap.size + 1, 3, none⟩ (.int .i64 z3)).setCell ⟨w.heap.size + 1, 4, none⟩ (.int .i64 z4)).setCell ⟨w.heap.size + 1, 5, none⟩ (.int .i64 z5)).setCell ⟨w.heap.size + 1, 6, none⟩ (.int .i64 z6)).setCell ⟨w.heap.size + 1, 7, none⟩ (.int .i64 z7)) = w9 at *
  refine wpAnyH_done (by kernel_rfl) ?_ _
  clear hHeld hHeld1 hHeld2 hHeld3 hHeld4
  obtain ⟨⟨q0, q1, q2, q3, q4, q5, q6, q7⟩, _⟩ := box8_cells HPn.out
  go_wp2
  refine bodyPost_ret (v := .agg #[.int .i64 z0, .int .i64 z1, .int .i64 z2, .int .i64 z3, .int .i64 z4, .int .i64 z5, .int .i64 z6, .int .i64 z7]) (by simp only [results, Try.results19]; simp [go_sem, q0, q1, q2, q3, q4, q5, q6, q7]) rfl ⟨rfl, HBn.out⟩
end Go.Proofs.Ytpjnmkijndmemaa
