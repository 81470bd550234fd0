/-
  A pump that came in, opened; made a pump of the program; two compared.
-/
import Derived.Test.YtckeffccoghgeaaDoorSpTk0s
import Derived.Deep.Strs
import Derived.OpenShut
import Derived.ChangeSame
import Derived.ChangeOld
namespace Go.Proofs.YtckeffccoghgeaaDoor
open Go.ChangeShapes Go.WideShapes Go.ChangeAt Go.RowKit Go.Deep Go.PlainAid
set_option linter.unusedVariables false
set_option maxRecDepth 100000

theorem cells3p : Tryd.prog.cellsOf 3 = 1 := by kernel_rfl
theorem cellsRat : Tryd.prog.cellsOf 23 = 3 := by kernel_rfl
theorem cellsPmp : Tryd.prog.cellsOf 25 = 8 := by kernel_rfl
theorem open_pump {H : Type} {enc : TypeId × Value → H} {W : World} {base : Nat} {held : Bool} {v : Value} {d : DataW H} {ps : List MemPlace} {bs : Nat}
    (hv : Value.okWide Tryd.prog W .any base 25 v) (h : DataW.Trod enc Tryd.prog W bs (fun _ => true) held 25 v d ps) :
    ∃ p : Pm, v = p.V := by
  obtain ⟨cs, rfl, hsz⟩ := okWide_struct Tryd.underlying25 hv
  rw [cellsPmp] at hsz
  obtain ⟨l⟩ := cs
  match l, hsz with
  | [c0, c1, c2, c3, c4, c5, c6, c7], _ =>
  obtain ⟨fuel, hf⟩ := h
  obtain ⟨xs, kk, hk, hxy, _, hxl, hf⟩ := DataW.trod_struct Tryd.underlying25 hf
  match xs, hxl with
  | [y0, y1, y2, y3, y4, y5], _ =>
    have g0 := hf 0 _ rfl
    have g1 := hf 1 _ rfl
    have g2 := hf 2 _ rfl
    have g3 := hf 3 _ rfl
    have g4 := hf 4 _ rfl
    have g5 := hf 5 _ rfl
    simp [Value.cells, cells3p, cellsRat] at g0 g1 g2 g3 g4 g5
    obtain ⟨z0, q0, _, u0⟩ := DataW.trod_int Tryd.underlying3 g0
    obtain ⟨z2, q2, _, u2⟩ := DataW.trod_int Tryd.underlying3 g2
    obtain ⟨z3, q3, _, u3⟩ := DataW.trod_int Tryd.underlying3 g3
    obtain ⟨z4, q4, _, u4⟩ := DataW.trod_int Tryd.underlying3 g4
    obtain ⟨z5, q5, _, u5⟩ := DataW.trod_int Tryd.underlying3 g5
    obtain ⟨xs1, kk1, hk1, hxy1, _, hxl1, hf1⟩ := DataW.trod_struct Tryd.underlying23 g1
    match xs1, hxl1 with
    | [e0, e1, e2], _ =>
      have f0 := hf1 0 _ rfl
      have f1 := hf1 1 _ rfl
      have f2 := hf1 2 _ rfl
      simp [cells3p] at f0 f1 f2
      obtain ⟨t0, p0, _, v0⟩ := DataW.trod_int Tryd.underlying3 f0
      obtain ⟨t1, p1, _, v1⟩ := DataW.trod_int Tryd.underlying3 f1
      obtain ⟨t2, p2, _, v2⟩ := DataW.trod_int Tryd.underlying3 f2
      simp at q0 q2 q3 q4 q5 p0 p1 p2
      subst q0 q2 q3 q4 q5 p0 p1 p2
      exact ⟨⟨z0, t0, t1, t2, z2, z3, z4, z5⟩, rfl⟩
set_option maxRecDepth 100000 in
set_option maxHeartbeats 4000000 in
theorem toPmp (p : Pm) (w : World) : Calls Tryd.prog 15 #[p.V] w fun e w' => e = .returned p.V ∧ Below w.heap.size w w' := by
  obtain ⟨s, n, d, r, l, b, g, k⟩ := p
  show Calls Tryd.prog 15 #[PV s n d r l b g k] w fun e w' => e = .returned (PV s n d r l b g k) ∧ Below w.heap.size w w'
  have HB0 : Hid (Below w.heap.size w (((w.alloc (.cells #[.int .i64 s, .int .i64 n, .int .i64 d, .int .i64 r, .int .i64 l, .int .i64 b, .int .i64 g, .int .i64 k] 25)).alloc (PB 0 0 0 0 0 0 0 0)).alloc (PB 0 0 0 0 0 0 0 0))) := bel_on (Nat.le_refl _) (bel_on (Nat.le_refl _) (alP _ _) (alP _ _)) (alP _ _)
  have HP0 : Hid ((((w.alloc (.cells #[.int .i64 s, .int .i64 n, .int .i64 d, .int .i64 r, .int .i64 l, .int .i64 b, .int .i64 g, .int .i64 k] 25)).alloc (PB 0 0 0 0 0 0 0 0)).alloc (PB 0 0 0 0 0 0 0 0)).heap[w.heap.size]? = some (.cells #[.int .i64 s, .int .i64 n, .int .i64 d, .int .i64 r, .int .i64 l, .int .i64 b, .int .i64 g, .int .i64 k] 25)) := row_on (row_on (heap_new w _) (alP _ _)) (alP _ _)
  have HZ0 : Hid ((((w.alloc (.cells #[.int .i64 s, .int .i64 n, .int .i64 d, .int .i64 r, .int .i64 l, .int .i64 b, .int .i64 g, .int .i64 k] 25)).alloc (PB 0 0 0 0 0 0 0 0)).alloc (PB 0 0 0 0 0 0 0 0)).heap[w.heap.size + 1]? = some (PB 0 0 0 0 0 0 0 0)) := row_on (al_at (w.alloc (.cells #[.int .i64 s, .int .i64 n, .int .i64 d, .int .i64 r, .int .i64 l, .int .i64 b, .int .i64 g, .int .i64 k] 25)) _ (by simp)) (alP _ _)
  have HN0 : Hid ((((w.alloc (.cells #[.int .i64 s, .int .i64 n, .int .i64 d, .int .i64 r, .int .i64 l, .int .i64 b, .int .i64 g, .int .i64 k] 25)).alloc (PB 0 0 0 0 0 0 0 0)).alloc (PB 0 0 0 0 0 0 0 0)).heap[w.heap.size + 1 + 1]? = some (PB 0 0 0 0 0 0 0 0)) := al_at ((w.alloc (.cells #[.int .i64 s, .int .i64 n, .int .i64 d, .int .i64 r, .int .i64 l, .int .i64 b, .int .i64 g, .int .i64 k] 25)).alloc (PB 0 0 0 0 0 0 0 0)) _ (by simp)
  have p0 := box8_cells HP0.out
  have KR : Hid (∀ w, Calls Tryd.prog 35 #[.agg #[.int .i64 n, .int .i64 d, .int .i64 r]] w fun e w' => e = .returned (.agg #[.int .i64 n, .int .i64 d, .int .i64 r]) ∧ Below w.heap.size w w') := fun w => toRat n d r w
  go_enter Tryd.func15, Tryd.ntmps15
  go_upto_region 2 with fail
  go_wp2_with (refine listStoreC rfl rfl _ _ _ rfl rfl (w.heap.size + 1 + 1) 0 (s) rfl rfl HN0.out (by simp) ?_)
  intro w1 hr ho hs hB
  have HB1 : Hid (Below w.heap.size w w1) := hB _ _ (le2 _) HB0.out
  have HN1 : Hid (w1.heap[w.heap.size + 1 + 1]? = some (PB s 0 0 0 0 0 0 0)) := hr
  have HP1 : Hid (w1.heap[w.heap.size]? = some (.cells #[.int .i64 s, .int .i64 n, .int .i64 d, .int .i64 r, .int .i64 l, .int .i64 b, .int .i64 g, .int .i64 k] 25)) := (ho _ (by omega)).trans HP0.out
  have HZ1 : Hid (w1.heap[w.heap.size + 1]? = some (PB 0 0 0 0 0 0 0 0)) := (ho _ (by omega)).trans HZ0.out
  have p1 := box8_cells HP1.out
  have n1 := box8_cells HN1.out
  clear hr ho hs hB HB0 HN0 HP0 HZ0 p0
  go_wp2_with fail
  refine Calls.mono (KR.out _) ?_
  rintro e w2 ⟨rfl, hb2⟩
  have HB2 : Hid (Below w.heap.size w w2) := bel_on (Nat.le_refl _) HB1.out hb2
  have HN2 : Hid (w2.heap[w.heap.size + 1 + 1]? = some (PB s 0 0 0 0 0 0 0)) := row_on HN1.out hb2
  have HP2 : Hid (w2.heap[w.heap.size]? = some (.cells #[.int .i64 s, .int .i64 n, .int .i64 d, .int .i64 r, .int .i64 l, .int .i64 b, .int .i64 g, .int .i64 k] 25)) := row_on HP1.out hb2
  have HZ2 : Hid (w2.heap[w.heap.size + 1]? = some (PB 0 0 0 0 0 0 0 0)) := row_on HZ1.out hb2
  have p2 := box8_cells HP2.out
  have n2 := box8_cells HN2.out
  clear hb2 HB1 HN1 HP1 HZ1 p1 n1 KR
  go_wp2_with (refine listStoreR rfl rfl _ _ _ rfl rfl (w.heap.size + 1 + 1) (n) (d) (r) rfl rfl HN2.out ?_)
  intro w3 hr ho hs hB
  have HB3 : Hid (Below w.heap.size w w3) := hB _ _ (le2 _) HB2.out
  have HN3 : Hid (w3.heap[w.heap.size + 1 + 1]? = some (PB s n d r 0 0 0 0)) := hr
  have HP3 : Hid (w3.heap[w.heap.size]? = some (.cells #[.int .i64 s, .int .i64 n, .int .i64 d, .int .i64 r, .int .i64 l, .int .i64 b, .int .i64 g, .int .i64 k] 25)) := (ho _ (by omega)).trans HP2.out
  have HZ3 : Hid (w3.heap[w.heap.size + 1]? = some (PB 0 0 0 0 0 0 0 0)) := (ho _ (by omega)).trans HZ2.out
  have p3 := box8_cells HP3.out
  have n3 := box8_cells HN3.out
  clear hr ho hs hB HB2 HN2 HP2 HZ2 p2 n2
  go_upto_region 4 with fail
  go_wp2_with (refine listStoreC rfl rfl _ _ _ rfl rfl (w.heap.size + 1 + 1) 4 (l) rfl rfl HN3.out (by simp) ?_)
  intro w4 hr ho hs hB
  have HB4 : Hid (Below w.heap.size w w4) := hB _ _ (le2 _) HB3.out
  have HN4 : Hid (w4.heap[w.heap.size + 1 + 1]? = some (PB s n d r l 0 0 0)) := hr
  have HP4 : Hid (w4.heap[w.heap.size]? = some (.cells #[.int .i64 s, .int .i64 n, .int .i64 d, .int .i64 r, .int .i64 l, .int .i64 b, .int .i64 g, .int .i64 k] 25)) := (ho _ (by omega)).trans HP3.out
  have HZ4 : Hid (w4.heap[w.heap.size + 1]? = some (PB 0 0 0 0 0 0 0 0)) := (ho _ (by omega)).trans HZ3.out
  have p4 := box8_cells HP4.out
  have n4 := box8_cells HN4.out
  clear hr ho hs hB HB3 HN3 HP3 HZ3 p3 n3
  go_upto_region 5 with fail
  go_wp2_with (refine listStoreC rfl rfl _ _ _ rfl rfl (w.heap.size + 1 + 1) 5 (b) rfl rfl HN4.out (by simp) ?_)
  intro w5 hr ho hs hB
  have HB5 : Hid (Below w.heap.size w w5) := hB _ _ (le2 _) HB4.out
  have HN5 : Hid (w5.heap[w.heap.size + 1 + 1]? = some (PB s n d r l b 0 0)) := hr
  have HP5 : Hid (w5.heap[w.heap.size]? = some (.cells #[.int .i64 s, .int .i64 n, .int .i64 d, .int .i64 r, .int .i64 l, .int .i64 b, .int .i64 g, .int .i64 k] 25)) := (ho _ (by omega)).trans HP4.out
  have HZ5 : Hid (w5.heap[w.heap.size + 1]? = some (PB 0 0 0 0 0 0 0 0)) := (ho _ (by omega)).trans HZ4.out
  have p5 := box8_cells HP5.out
  have n5 := box8_cells HN5.out
  clear hr ho hs hB HB4 HN4 HP4 HZ4 p4 n4
  go_upto_region 6 with fail
  go_wp2_with (refine listStoreC rfl rfl _ _ _ rfl rfl (w.heap.size + 1 + 1) 6 (g) rfl rfl HN5.out (by simp) ?_)
  intro w6 hr ho hs hB
  have HB6 : Hid (Below w.heap.size w w6) := hB _ _ (le2 _) HB5.out
  have HN6 : Hid (w6.heap[w.heap.size + 1 + 1]? = some (PB s n d r l b g 0)) := hr
  have HP6 : Hid (w6.heap[w.heap.size]? = some (.cells #[.int .i64 s, .int .i64 n, .int .i64 d, .int .i64 r, .int .i64 l, .int .i64 b, .int .i64 g, .int .i64 k] 25)) := (ho _ (by omega)).trans HP5.out
  have HZ6 : Hid (w6.heap[w.heap.size + 1]? = some (PB 0 0 0 0 0 0 0 0)) := (ho _ (by omega)).trans HZ5.out
  have p6 := box8_cells HP6.out
  have n6 := box8_cells HN6.out
  clear hr ho hs hB HB5 HN5 HP5 HZ5 p5 n5
  go_upto_region 7 with fail
  go_wp2_with (refine listStoreC rfl rfl _ _ _ rfl rfl (w.heap.size + 1 + 1) 7 (k) rfl rfl HN6.out (by simp) ?_)
  intro w7 hr ho hs hB
  have HB7 : Hid (Below w.heap.size w w7) := hB _ _ (le2 _) HB6.out
  have HN7 : Hid (w7.heap[w.heap.size + 1 + 1]? = some (PB s n d r l b g k)) := hr
  have HP7 : Hid (w7.heap[w.heap.size]? = some (.cells #[.int .i64 s, .int .i64 n, .int .i64 d, .int .i64 r, .int .i64 l, .int .i64 b, .int .i64 g, .int .i64 k] 25)) := (ho _ (by omega)).trans HP6.out
  have HZ7 : Hid (w7.heap[w.heap.size + 1]? = some (PB 0 0 0 0 0 0 0 0)) := (ho _ (by omega)).trans HZ6.out
  have p7 := box8_cells HP7.out
  have n7 := box8_cells HN7.out
  clear hr ho hs hB HB6 HN6 HP6 HZ6 p6 n6
  go_upto_region 8 with fail
  go_wp2_with (refine listStoreP rfl rfl _ _ _ rfl rfl (w.heap.size + 1) s n d r l b g k rfl rfl HZ7.out ?_)
  intro w99 hr9 ho9 hs9 hB9
  have HF : Hid (Below w.heap.size w w99) := hB9 _ _ (Nat.le_succ _) HB7.out
  obtain ⟨⟨q0, q1, q2, q3, q4, q5, q6, q7⟩, _⟩ := box8_cells hr9
  clear ho9 hs9 hB9 hr9
  go_wp2
  refine bodyPost_ret (v := PV s n d r l b g k) (by simp only [results, Tryd.results15]; simp [go_sem, q0, q1, q2, q3, q4, q5, q6, q7]) rfl ⟨rfl, HF.out⟩
set_option maxRecDepth 100000 in
set_option maxHeartbeats 4000000 in
theorem eqPmp (p : Pm) (w : World) : Calls Tryd.prog 23 #[p.V, p.V] w fun e w' => e = .returned (.bool true) ∧ Below w.heap.size w w' := by
  obtain ⟨s, n, d, r, l, b, g, k⟩ := p
  show Calls Tryd.prog 23 #[PV s n d r l b g k, PV s n d r l b g k] w fun e w' => e = .returned (.bool true) ∧ Below w.heap.size w w'
  have HB0 : Hid (Below w.heap.size w ((w.alloc (PB s n d r l b g k)).alloc (PB s n d r l b g k))) := bel_on (Nat.le_refl _) (alP _ _) (alP _ _)
  have HP0 : Hid (((w.alloc (PB s n d r l b g k)).alloc (PB s n d r l b g k)).heap[w.heap.size]? = some (PB s n d r l b g k)) := row_on (heap_new w _) (alP _ _)
  have HQ0 : Hid (((w.alloc (PB s n d r l b g k)).alloc (PB s n d r l b g k)).heap[w.heap.size + 1]? = some (PB s n d r l b g k)) := al_at (w.alloc (PB s n d r l b g k)) _ (by simp)
  have p0 := box8_cells HP0.out
  have q0 := box8_cells HQ0.out
  have KR : Hid (∀ w, Calls Tryd.prog 46 #[.agg #[.int .i64 n, .int .i64 d, .int .i64 r], .agg #[.int .i64 n, .int .i64 d, .int .i64 r]] w fun e w' => e = .returned (.bool true) ∧ Below w.heap.size w w') := fun w => eqRat n d r w
  go_enter Tryd.func23, Tryd.ntmps23
  go_wp2_with fail
  refine Calls.mono (KR.out _) ?_
  rintro e w1 ⟨rfl, hb1⟩
  have HB1 : Hid (Below w.heap.size w w1) := bel_on (Nat.le_refl _) HB0.out hb1
  have HP1 : Hid (w1.heap[w.heap.size]? = some (PB s n d r l b g k)) := row_on HP0.out hb1
  have HQ1 : Hid (w1.heap[w.heap.size + 1]? = some (PB s n d r l b g k)) := row_on HQ0.out hb1
  have p1 := box8_cells HP1.out
  have q1 := box8_cells HQ1.out
  clear hb1 HB0 HP0 HQ0 p0 q0 KR
  go_wp2
  go_ret
  exact ⟨rfl, HB1.out⟩
end Go.Proofs.YtckeffccoghgeaaDoor
