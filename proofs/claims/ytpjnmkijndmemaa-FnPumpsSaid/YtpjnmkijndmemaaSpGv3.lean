/-
  Give of the specification, some of its ways.
-/
import Derived.Test.YtpjnmkijndmemaaSpGv0
namespace Go.Proofs.Ytpjnmkijndmemaa
open Go.RowKit Go.PlainAid
set_option linter.unusedVariables false
set_option linter.unusedSimpArgs false

set_option maxRecDepth 100000 in
set_option maxHeartbeats 4000000 in
theorem giveS_2 (n d r l b g k a m W c q B G g2 r' y : Int) (KP : Hid (∀ w, Calls Try.prog 27 #[.agg #[.int .i64 2, .int .i64 n, .int .i64 d, .int .i64 r, .int .i64 l, .int .i64 b, .int .i64 g, .int .i64 k]] w fun e w' => e = .returned (.bool true) ∧ Below w.heap.size w w')) (KW : Hid (∀ w, Calls Try.prog 23 #[.agg #[.int .i64 2, .int .i64 n, .int .i64 d, .int .i64 r, .int .i64 l, .int .i64 b, .int .i64 g, .int .i64 k]] w fun e w' => e = .returned (.int .i64 W) ∧ Below w.heap.size w w')) (KR : Hid (∀ w, Calls Try.prog 41 #[.agg #[.int .i64 n, .int .i64 d, .int .i64 r]] w fun e w' => e = .returned (.tuple #[.agg #[.int .i64 n, .int .i64 d, .int .i64 r'], .int .i64 y]) ∧ Below w.heap.size w w')) (hm : Hid (min a W = m)) (hq : Hid (min b 3 = q)) (hc : Hid (min m q = c)) (hg2 : Hid (min G 1000000000000 = g2)) (hneg : 0 ≤ m) (eB : IntKind.i64.wrap (b - c) = B) (eG : IntKind.i64.wrap (g + m) = G) (HT : Hid (Pm.give ⟨2, n, d, r, l, b, g, k⟩ a = ⟨2, n, d, r', l, B, g2, k⟩)) (w : World) : Calls Try.prog 20 #[.agg #[.int .i64 2, .int .i64 n, .int .i64 d, .int .i64 r, .int .i64 l, .int .i64 b, .int .i64 g, .int .i64 k], .int .i64 a] w fun e w' => e = .returned (Pm.give ⟨2, n, d, r, l, b, g, k⟩ a).V ∧ Below w.heap.size w w' := by
  have HB0 : Hid (Below w.heap.size w ((w.alloc (.cells #[.int .i64 2, .int .i64 n, .int .i64 d, .int .i64 r, .int .i64 l, .int .i64 b, .int .i64 g, .int .i64 k] 27)).alloc (.cells #[.int .i64 0, .int .i64 0, .int .i64 0, .int .i64 0, .int .i64 0, .int .i64 0, .int .i64 0, .int .i64 0] 27))) := bel_on (Nat.le_refl _) (alP _ _) (alP _ _)
  have HP0 : Hid (((w.alloc (.cells #[.int .i64 2, .int .i64 n, .int .i64 d, .int .i64 r, .int .i64 l, .int .i64 b, .int .i64 g, .int .i64 k] 27)).alloc (.cells #[.int .i64 0, .int .i64 0, .int .i64 0, .int .i64 0, .int .i64 0, .int .i64 0, .int .i64 0, .int .i64 0] 27)).heap[w.heap.size]? = some (.cells #[.int .i64 2, .int .i64 n, .int .i64 d, .int .i64 r, .int .i64 l, .int .i64 b, .int .i64 g, .int .i64 k] 27)) := row_on (heap_new w _) (alP _ _)
  have HZ0 : Hid (((w.alloc (.cells #[.int .i64 2, .int .i64 n, .int .i64 d, .int .i64 r, .int .i64 l, .int .i64 b, .int .i64 g, .int .i64 k] 27)).alloc (.cells #[.int .i64 0, .int .i64 0, .int .i64 0, .int .i64 0, .int .i64 0, .int .i64 0, .int .i64 0, .int .i64 0] 27)).heap[w.heap.size + 1]? = some (.cells #[.int .i64 0, .int .i64 0, .int .i64 0, .int .i64 0, .int .i64 0, .int .i64 0, .int .i64 0, .int .i64 0] 27)) := al_at (w.alloc (.cells #[.int .i64 2, .int .i64 n, .int .i64 d, .int .i64 r, .int .i64 l, .int .i64 b, .int .i64 g, .int .i64 k] 27)) _ (by simp)
  have p0 := box8_cells HP0.out
  go_enter Try.func20, Try.ntmps20
  go_wp2_with fail
  refine Calls.mono (KP.out _) ?_
  rintro e w1 ⟨rfl, hb1⟩
  have HB1 : Hid (Below w.heap.size w w1) := bel_on (Nat.le_refl _) HB0.out hb1
  have HP1 : Hid (w1.heap[w.heap.size]? = some (.cells #[.int .i64 2, .int .i64 n, .int .i64 d, .int .i64 r, .int .i64 l, .int .i64 b, .int .i64 g, .int .i64 k] 27)) := row_on HP0.out hb1
  have HZ1 : Hid (w1.heap[w.heap.size + 1]? = some (.cells #[.int .i64 0, .int .i64 0, .int .i64 0, .int .i64 0, .int .i64 0, .int .i64 0, .int .i64 0, .int .i64 0] 27)) := row_on HZ0.out hb1
  have p1 := box8_cells HP1.out
  clear hb1 HB0 HP0 HZ0 p0
  go_wp2_with fail
  refine Calls.mono (KW.out _) ?_
  rintro e w2 ⟨rfl, hb2⟩
  have HB2 : Hid (Below w.heap.size w w2) := bel_on (Nat.le_refl _) HB1.out hb2
  have HP2 : Hid (w2.heap[w.heap.size]? = some (.cells #[.int .i64 2, .int .i64 n, .int .i64 d, .int .i64 r, .int .i64 l, .int .i64 b, .int .i64 g, .int .i64 k] 27)) := row_on HP1.out hb2
  have HZ2 : Hid (w2.heap[w.heap.size + 1]? = some (.cells #[.int .i64 0, .int .i64 0, .int .i64 0, .int .i64 0, .int .i64 0, .int .i64 0, .int .i64 0, .int .i64 0] 27)) := row_on HZ1.out hb2
  have p2 := box8_cells HP2.out
  have hl2 := row_lt HZ2.out
  clear hb2 HB1 HP1 HZ1 p1 KP KW
  go_wp2_with fail
  refine (lessS a W m hm.out _).mono ?_
  rintro e wz ⟨rfl, hwz⟩
  subst hwz
  have HN2 : Hid ((wz.alloc (.cells #[.int .i64 0, .int .i64 0, .int .i64 0, .int .i64 0, .int .i64 0, .int .i64 0, .int .i64 0, .int .i64 0] 27)).heap[wz.heap.size]? = some (.cells #[.int .i64 0, .int .i64 0, .int .i64 0, .int .i64 0, .int .i64 0, .int .i64 0, .int .i64 0, .int .i64 0] 27)) := heap_new wz _
  have HPa : Hid ((wz.alloc (.cells #[.int .i64 0, .int .i64 0, .int .i64 0, .int .i64 0, .int .i64 0, .int .i64 0, .int .i64 0, .int .i64 0] 27)).heap[w.heap.size]? = some (.cells #[.int .i64 2, .int .i64 n, .int .i64 d, .int .i64 r, .int .i64 l, .int .i64 b, .int .i64 g, .int .i64 k] 27)) := row_on HP2.out (alP _ _)
  have HZa : Hid ((wz.alloc (.cells #[.int .i64 0, .int .i64 0, .int .i64 0, .int .i64 0, .int .i64 0, .int .i64 0, .int .i64 0, .int .i64 0] 27)).heap[w.heap.size + 1]? = some (.cells #[.int .i64 0, .int .i64 0, .int .i64 0, .int .i64 0, .int .i64 0, .int .i64 0, .int .i64 0, .int .i64 0] 27)) := row_on HZ2.out (alP _ _)
  have HBa : Hid (Below w.heap.size w (wz.alloc (.cells #[.int .i64 0, .int .i64 0, .int .i64 0, .int .i64 0, .int .i64 0, .int .i64 0, .int .i64 0, .int .i64 0] 27))) := bel_on (Nat.le_refl _) HB2.out (alP _ _)
  go_upto_region 6 with fail
  go_wp2_with (refine listStoreP rfl rfl _ _ _ rfl rfl wz.heap.size (2) (n) (d) (r) (l) (b) (g) (k) rfl rfl HN2.out ?_)
  intro w3 hr3 ho3 hs3 hB3
  obtain ⟨Q, hQ⟩ : ∃ Q, wz.heap.size = Q := ⟨_, rfl⟩
  rw [hQ] at hr3 ho3 hB3 hl2
  have hl : w.heap.size ≤ Q := by omega
  have HB3 : Hid (Below w.heap.size w w3) := hB3 _ _ hl HBa.out
  have HN3 : Hid (w3.heap[Q]? = some (.cells #[.int .i64 2, .int .i64 n, .int .i64 d, .int .i64 r, .int .i64 l, .int .i64 b, .int .i64 g, .int .i64 k] 27)) := hr3
  have HP3 : Hid (w3.heap[w.heap.size]? = some (.cells #[.int .i64 2, .int .i64 n, .int .i64 d, .int .i64 r, .int .i64 l, .int .i64 b, .int .i64 g, .int .i64 k] 27)) := (ho3 _ (by omega)).trans HPa.out
  have HZ3 : Hid (w3.heap[w.heap.size + 1]? = some (.cells #[.int .i64 0, .int .i64 0, .int .i64 0, .int .i64 0, .int .i64 0, .int .i64 0, .int .i64 0, .int .i64 0] 27)) := (ho3 _ (by omega)).trans HZa.out
  have p3 := box8_cells HP3.out
  have n3 := box8_cells HN3.out
  rw [hQ]
  clear hr3 ho3 hs3 hB3 HN2 HPa HZa HBa HP2 HZ2 HB2 p2 hQ
  go_wp2_with fail
  refine Calls.mono (KR.out _) ?_
  rintro e w4 ⟨rfl, hb4⟩
  have HB4 : Hid (Below w.heap.size w w4) := bel_on (Nat.le_refl _) HB3.out hb4
  have HN4 : Hid (w4.heap[Q]? = some (.cells #[.int .i64 2, .int .i64 n, .int .i64 d, .int .i64 r, .int .i64 l, .int .i64 b, .int .i64 g, .int .i64 k] 27)) := row_on HN3.out hb4
  have HP4 : Hid (w4.heap[w.heap.size]? = some (.cells #[.int .i64 2, .int .i64 n, .int .i64 d, .int .i64 r, .int .i64 l, .int .i64 b, .int .i64 g, .int .i64 k] 27)) := row_on HP3.out hb4
  have HZ4 : Hid (w4.heap[w.heap.size + 1]? = some (.cells #[.int .i64 0, .int .i64 0, .int .i64 0, .int .i64 0, .int .i64 0, .int .i64 0, .int .i64 0, .int .i64 0] 27)) := row_on HZ3.out hb4
  have p4 := box8_cells HP4.out
  have n4 := box8_cells HN4.out
  clear hb4 HB3 HN3 HP3 HZ3 p3 n3 KR
  go_wp2_with (refine listStoreR rfl rfl _ _ _ rfl rfl Q (n) (d) (r') rfl rfl HN4.out ?_)
  intro w5 hr ho hs hB
  have HB5 : Hid (Below w.heap.size w w5) := hB _ _ hl HB4.out
  have HN5 : Hid (w5.heap[Q]? = some (.cells #[.int .i64 2, .int .i64 n, .int .i64 d, .int .i64 r', .int .i64 l, .int .i64 b, .int .i64 g, .int .i64 k] 27)) := hr
  have HP5 : Hid (w5.heap[w.heap.size]? = some (.cells #[.int .i64 2, .int .i64 n, .int .i64 d, .int .i64 r, .int .i64 l, .int .i64 b, .int .i64 g, .int .i64 k] 27)) := (ho _ (by omega)).trans HP4.out
  have HZ5 : Hid (w5.heap[w.heap.size + 1]? = some (.cells #[.int .i64 0, .int .i64 0, .int .i64 0, .int .i64 0, .int .i64 0, .int .i64 0, .int .i64 0, .int .i64 0] 27)) := (ho _ (by omega)).trans HZ4.out
  have p5 := box8_cells HP5.out
  have n5 := box8_cells HN5.out
  clear hr ho hs hB HB4 HN4 HP4 HZ4 p4 n4
  go_wp2_with fail
  refine (lessS b 3 q hq.out _).mono ?_
  rintro e wz ⟨rfl, hwz⟩
  subst hwz
  go_wp2_with fail
  refine (lessS m q c hc.out _).mono ?_
  rintro e wz ⟨rfl, hwz⟩
  subst hwz
  go_upto_region 9 with fail
  go_wp2_with (refine listStoreC rfl rfl _ _ _ rfl rfl Q 5 (B) rfl rfl HN5.out (by simp) ?_)
  intro w6 hr ho hs hB
  have HB6 : Hid (Below w.heap.size w w6) := hB _ _ hl HB5.out
  have HN6 : Hid (w6.heap[Q]? = some (.cells #[.int .i64 2, .int .i64 n, .int .i64 d, .int .i64 r', .int .i64 l, .int .i64 B, .int .i64 g, .int .i64 k] 27)) := hr
  have HP6 : Hid (w6.heap[w.heap.size]? = some (.cells #[.int .i64 2, .int .i64 n, .int .i64 d, .int .i64 r, .int .i64 l, .int .i64 b, .int .i64 g, .int .i64 k] 27)) := (ho _ (by omega)).trans HP5.out
  have HZ6 : Hid (w6.heap[w.heap.size + 1]? = some (.cells #[.int .i64 0, .int .i64 0, .int .i64 0, .int .i64 0, .int .i64 0, .int .i64 0, .int .i64 0, .int .i64 0] 27)) := (ho _ (by omega)).trans HZ5.out
  have p6 := box8_cells HP6.out
  have n6 := box8_cells HN6.out
  clear hr ho hs hB HB5 HN5 HP5 HZ5 p5 n5
  go_wp2_with fail
  refine (lessS G 1000000000000 g2 hg2.out _).mono ?_
  rintro e wz ⟨rfl, hwz⟩
  subst hwz
  go_wp2_with (refine listStoreC rfl rfl _ _ _ rfl rfl Q 6 (g2) rfl rfl HN6.out (by simp) ?_)
  intro w8 hr ho hs hB
  have HB8 : Hid (Below w.heap.size w w8) := hB _ _ hl HB6.out
  have HN8 : Hid (w8.heap[Q]? = some (.cells #[.int .i64 2, .int .i64 n, .int .i64 d, .int .i64 r', .int .i64 l, .int .i64 B, .int .i64 g2, .int .i64 k] 27)) := hr
  have HP8 : Hid (w8.heap[w.heap.size]? = some (.cells #[.int .i64 2, .int .i64 n, .int .i64 d, .int .i64 r, .int .i64 l, .int .i64 b, .int .i64 g, .int .i64 k] 27)) := (ho _ (by omega)).trans HP6.out
  have HZ8 : Hid (w8.heap[w.heap.size + 1]? = some (.cells #[.int .i64 0, .int .i64 0, .int .i64 0, .int .i64 0, .int .i64 0, .int .i64 0, .int .i64 0, .int .i64 0] 27)) := (ho _ (by omega)).trans HZ6.out
  have p8 := box8_cells HP8.out
  have n8 := box8_cells HN8.out
  clear hr ho hs hB HB6 HN6 HP6 HZ6 p6 n6
  go_upto_region 16 with fail
  go_wp2_with (refine listStoreP rfl rfl _ _ _ rfl rfl (w.heap.size + 1) (2) (n) (d) (r') (l) (B) (g2) (k) rfl rfl HZ8.out ?_)
  intro w99 hr9 ho9 hs9 hB9
  have HF : Hid (Below w.heap.size w w99) := hB9 _ _ (Nat.le_succ _) HB8.out
  obtain ⟨⟨q0, q1, q2, q3, q4, q5, q6, q7⟩, _⟩ := box8_cells hr9
  clear ho9 hs9 hB9 hr9
  go_wp2
  refine bodyPost_ret (v := .agg #[.int .i64 2, .int .i64 n, .int .i64 d, .int .i64 r', .int .i64 l, .int .i64 B, .int .i64 g2, .int .i64 k]) (by simp only [results, Try.results20]; simp [go_sem, q0, q1, q2, q3, q4, q5, q6, q7]) rfl ⟨by rw [HT.out]; rfl, HF.out⟩
set_option maxRecDepth 100000 in
set_option maxHeartbeats 4000000 in
theorem giveS_2n (n d r l b g k a m W q r' y : Int) (KP : Hid (∀ w, Calls Try.prog 27 #[.agg #[.int .i64 2, .int .i64 n, .int .i64 d, .int .i64 r, .int .i64 l, .int .i64 b, .int .i64 g, .int .i64 k]] w fun e w' => e = .returned (.bool true) ∧ Below w.heap.size w w')) (KW : Hid (∀ w, Calls Try.prog 23 #[.agg #[.int .i64 2, .int .i64 n, .int .i64 d, .int .i64 r, .int .i64 l, .int .i64 b, .int .i64 g, .int .i64 k]] w fun e w' => e = .returned (.int .i64 W) ∧ Below w.heap.size w w')) (KR : Hid (∀ w, Calls Try.prog 41 #[.agg #[.int .i64 n, .int .i64 d, .int .i64 r]] w fun e w' => e = .returned (.tuple #[.agg #[.int .i64 n, .int .i64 d, .int .i64 r'], .int .i64 y]) ∧ Below w.heap.size w w')) (hm : Hid (min a W = m)) (hq : Hid (min b 3 = q)) (hc : Hid (min 0 q = 0)) (hg2 : Hid (min g 1000000000000 = g)) (hneg : m < 0) (eb : IntKind.i64.wrap b = b) (eb' : wrap64 b = b) (eg : IntKind.i64.wrap g = g) (eg' : wrap64 g = g) (el : IntKind.i64.wrap l = l) (el' : wrap64 l = l) (HT : Hid (Pm.give ⟨2, n, d, r, l, b, g, k⟩ a = ⟨2, n, d, r', l, b, g, k⟩)) (w : World) : Calls Try.prog 20 #[.agg #[.int .i64 2, .int .i64 n, .int .i64 d, .int .i64 r, .int .i64 l, .int .i64 b, .int .i64 g, .int .i64 k], .int .i64 a] w fun e w' => e = .returned (Pm.give ⟨2, n, d, r, l, b, g, k⟩ a).V ∧ Below w.heap.size w w' := by
  have HB0 : Hid (Below w.heap.size w ((w.alloc (.cells #[.int .i64 2, .int .i64 n, .int .i64 d, .int .i64 r, .int .i64 l, .int .i64 b, .int .i64 g, .int .i64 k] 27)).alloc (.cells #[.int .i64 0, .int .i64 0, .int .i64 0, .int .i64 0, .int .i64 0, .int .i64 0, .int .i64 0, .int .i64 0] 27))) := bel_on (Nat.le_refl _) (alP _ _) (alP _ _)
  have HP0 : Hid (((w.alloc (.cells #[.int .i64 2, .int .i64 n, .int .i64 d, .int .i64 r, .int .i64 l, .int .i64 b, .int .i64 g, .int .i64 k] 27)).alloc (.cells #[.int .i64 0, .int .i64 0, .int .i64 0, .int .i64 0, .int .i64 0, .int .i64 0, .int .i64 0, .int .i64 0] 27)).heap[w.heap.size]? = some (.cells #[.int .i64 2, .int .i64 n, .int .i64 d, .int .i64 r, .int .i64 l, .int .i64 b, .int .i64 g, .int .i64 k] 27)) := row_on (heap_new w _) (alP _ _)
  have HZ0 : Hid (((w.alloc (.cells #[.int .i64 2, .int .i64 n, .int .i64 d, .int .i64 r, .int .i64 l, .int .i64 b, .int .i64 g, .int .i64 k] 27)).alloc (.cells #[.int .i64 0, .int .i64 0, .int .i64 0, .int .i64 0, .int .i64 0, .int .i64 0, .int .i64 0, .int .i64 0] 27)).heap[w.heap.size + 1]? = some (.cells #[.int .i64 0, .int .i64 0, .int .i64 0, .int .i64 0, .int .i64 0, .int .i64 0, .int .i64 0, .int .i64 0] 27)) := al_at (w.alloc (.cells #[.int .i64 2, .int .i64 n, .int .i64 d, .int .i64 r, .int .i64 l, .int .i64 b, .int .i64 g, .int .i64 k] 27)) _ (by simp)
  have p0 := box8_cells HP0.out
  go_enter Try.func20, Try.ntmps20
  go_wp2_with fail
  refine Calls.mono (KP.out _) ?_
  rintro e w1 ⟨rfl, hb1⟩
  have HB1 : Hid (Below w.heap.size w w1) := bel_on (Nat.le_refl _) HB0.out hb1
  have HP1 : Hid (w1.heap[w.heap.size]? = some (.cells #[.int .i64 2, .int .i64 n, .int .i64 d, .int .i64 r, .int .i64 l, .int .i64 b, .int .i64 g, .int .i64 k] 27)) := row_on HP0.out hb1
  have HZ1 : Hid (w1.heap[w.heap.size + 1]? = some (.cells #[.int .i64 0, .int .i64 0, .int .i64 0, .int .i64 0, .int .i64 0, .int .i64 0, .int .i64 0, .int .i64 0] 27)) := row_on HZ0.out hb1
  have p1 := box8_cells HP1.out
  clear hb1 HB0 HP0 HZ0 p0
  go_wp2_with fail
  refine Calls.mono (KW.out _) ?_
  rintro e w2 ⟨rfl, hb2⟩
  have HB2 : Hid (Below w.heap.size w w2) := bel_on (Nat.le_refl _) HB1.out hb2
  have HP2 : Hid (w2.heap[w.heap.size]? = some (.cells #[.int .i64 2, .int .i64 n, .int .i64 d, .int .i64 r, .int .i64 l, .int .i64 b, .int .i64 g, .int .i64 k] 27)) := row_on HP1.out hb2
  have HZ2 : Hid (w2.heap[w.heap.size + 1]? = some (.cells #[.int .i64 0, .int .i64 0, .int .i64 0, .int .i64 0, .int .i64 0, .int .i64 0, .int .i64 0, .int .i64 0] 27)) := row_on HZ1.out hb2
  have p2 := box8_cells HP2.out
  have hl2 := row_lt HZ2.out
  clear hb2 HB1 HP1 HZ1 p1 KP KW
  go_wp2_with fail
  refine (lessS a W m hm.out _).mono ?_
  rintro e wz ⟨rfl, hwz⟩
  subst hwz
  have HN2 : Hid ((wz.alloc (.cells #[.int .i64 0, .int .i64 0, .int .i64 0, .int .i64 0, .int .i64 0, .int .i64 0, .int .i64 0, .int .i64 0] 27)).heap[wz.heap.size]? = some (.cells #[.int .i64 0, .int .i64 0, .int .i64 0, .int .i64 0, .int .i64 0, .int .i64 0, .int .i64 0, .int .i64 0] 27)) := heap_new wz _
  have HPa : Hid ((wz.alloc (.cells #[.int .i64 0, .int .i64 0, .int .i64 0, .int .i64 0, .int .i64 0, .int .i64 0, .int .i64 0, .int .i64 0] 27)).heap[w.heap.size]? = some (.cells #[.int .i64 2, .int .i64 n, .int .i64 d, .int .i64 r, .int .i64 l, .int .i64 b, .int .i64 g, .int .i64 k] 27)) := row_on HP2.out (alP _ _)
  have HZa : Hid ((wz.alloc (.cells #[.int .i64 0, .int .i64 0, .int .i64 0, .int .i64 0, .int .i64 0, .int .i64 0, .int .i64 0, .int .i64 0] 27)).heap[w.heap.size + 1]? = some (.cells #[.int .i64 0, .int .i64 0, .int .i64 0, .int .i64 0, .int .i64 0, .int .i64 0, .int .i64 0, .int .i64 0] 27)) := row_on HZ2.out (alP _ _)
  have HBa : Hid (Below w.heap.size w (wz.alloc (.cells #[.int .i64 0, .int .i64 0, .int .i64 0, .int .i64 0, .int .i64 0, .int .i64 0, .int .i64 0, .int .i64 0] 27))) := bel_on (Nat.le_refl _) HB2.out (alP _ _)
  go_upto_region 6 with fail
  go_wp2_with (refine listStoreP rfl rfl _ _ _ rfl rfl wz.heap.size (2) (n) (d) (r) (l) (b) (g) (k) rfl rfl HN2.out ?_)
  intro w3 hr3 ho3 hs3 hB3
  obtain ⟨Q, hQ⟩ : ∃ Q, wz.heap.size = Q := ⟨_, rfl⟩
  rw [hQ] at hr3 ho3 hB3 hl2
  have hl : w.heap.size ≤ Q := by omega
  have HB3 : Hid (Below w.heap.size w w3) := hB3 _ _ hl HBa.out
  have HN3 : Hid (w3.heap[Q]? = some (.cells #[.int .i64 2, .int .i64 n, .int .i64 d, .int .i64 r, .int .i64 l, .int .i64 b, .int .i64 g, .int .i64 k] 27)) := hr3
  have HP3 : Hid (w3.heap[w.heap.size]? = some (.cells #[.int .i64 2, .int .i64 n, .int .i64 d, .int .i64 r, .int .i64 l, .int .i64 b, .int .i64 g, .int .i64 k] 27)) := (ho3 _ (by omega)).trans HPa.out
  have HZ3 : Hid (w3.heap[w.heap.size + 1]? = some (.cells #[.int .i64 0, .int .i64 0, .int .i64 0, .int .i64 0, .int .i64 0, .int .i64 0, .int .i64 0, .int .i64 0] 27)) := (ho3 _ (by omega)).trans HZa.out
  have p3 := box8_cells HP3.out
  have n3 := box8_cells HN3.out
  rw [hQ]
  clear hr3 ho3 hs3 hB3 HN2 HPa HZa HBa HP2 HZ2 HB2 p2 hQ
  go_wp2_with fail
  refine Calls.mono (KR.out _) ?_
  rintro e w4 ⟨rfl, hb4⟩
  have HB4 : Hid (Below w.heap.size w w4) := bel_on (Nat.le_refl _) HB3.out hb4
  have HN4 : Hid (w4.heap[Q]? = some (.cells #[.int .i64 2, .int .i64 n, .int .i64 d, .int .i64 r, .int .i64 l, .int .i64 b, .int .i64 g, .int .i64 k] 27)) := row_on HN3.out hb4
  have HP4 : Hid (w4.heap[w.heap.size]? = some (.cells #[.int .i64 2, .int .i64 n, .int .i64 d, .int .i64 r, .int .i64 l, .int .i64 b, .int .i64 g, .int .i64 k] 27)) := row_on HP3.out hb4
  have HZ4 : Hid (w4.heap[w.heap.size + 1]? = some (.cells #[.int .i64 0, .int .i64 0, .int .i64 0, .int .i64 0, .int .i64 0, .int .i64 0, .int .i64 0, .int .i64 0] 27)) := row_on HZ3.out hb4
  have p4 := box8_cells HP4.out
  have n4 := box8_cells HN4.out
  clear hb4 HB3 HN3 HP3 HZ3 p3 n3 KR
  go_wp2_with (refine listStoreR rfl rfl _ _ _ rfl rfl Q (n) (d) (r') rfl rfl HN4.out ?_)
  intro w5 hr ho hs hB
  have HB5 : Hid (Below w.heap.size w w5) := hB _ _ hl HB4.out
  have HN5 : Hid (w5.heap[Q]? = some (.cells #[.int .i64 2, .int .i64 n, .int .i64 d, .int .i64 r', .int .i64 l, .int .i64 b, .int .i64 g, .int .i64 k] 27)) := hr
  have HP5 : Hid (w5.heap[w.heap.size]? = some (.cells #[.int .i64 2, .int .i64 n, .int .i64 d, .int .i64 r, .int .i64 l, .int .i64 b, .int .i64 g, .int .i64 k] 27)) := (ho _ (by omega)).trans HP4.out
  have HZ5 : Hid (w5.heap[w.heap.size + 1]? = some (.cells #[.int .i64 0, .int .i64 0, .int .i64 0, .int .i64 0, .int .i64 0, .int .i64 0, .int .i64 0, .int .i64 0] 27)) := (ho _ (by omega)).trans HZ4.out
  have p5 := box8_cells HP5.out
  have n5 := box8_cells HN5.out
  clear hr ho hs hB HB4 HN4 HP4 HZ4 p4 n4
  go_wp2_with fail
  refine (lessS b 3 q hq.out _).mono ?_
  rintro e wz ⟨rfl, hwz⟩
  subst hwz
  go_wp2_with fail
  refine (lessS 0 q 0 hc.out _).mono ?_
  rintro e wz ⟨rfl, hwz⟩
  subst hwz
  go_upto_region 9 with fail
  go_wp2_with (refine listStoreC rfl rfl _ _ _ rfl rfl Q 5 (b) rfl rfl HN5.out (by simp) ?_)
  intro w6 hr ho hs hB
  have HB6 : Hid (Below w.heap.size w w6) := hB _ _ hl HB5.out
  have HN6 : Hid (w6.heap[Q]? = some (.cells #[.int .i64 2, .int .i64 n, .int .i64 d, .int .i64 r', .int .i64 l, .int .i64 b, .int .i64 g, .int .i64 k] 27)) := hr
  have HP6 : Hid (w6.heap[w.heap.size]? = some (.cells #[.int .i64 2, .int .i64 n, .int .i64 d, .int .i64 r, .int .i64 l, .int .i64 b, .int .i64 g, .int .i64 k] 27)) := (ho _ (by omega)).trans HP5.out
  have HZ6 : Hid (w6.heap[w.heap.size + 1]? = some (.cells #[.int .i64 0, .int .i64 0, .int .i64 0, .int .i64 0, .int .i64 0, .int .i64 0, .int .i64 0, .int .i64 0] 27)) := (ho _ (by omega)).trans HZ5.out
  have p6 := box8_cells HP6.out
  have n6 := box8_cells HN6.out
  clear hr ho hs hB HB5 HN5 HP5 HZ5 p5 n5
  go_wp2_with fail
  refine (lessS g 1000000000000 g hg2.out _).mono ?_
  rintro e wz ⟨rfl, hwz⟩
  subst hwz
  go_wp2_with (refine listStoreC rfl rfl _ _ _ rfl rfl Q 6 (g) rfl rfl HN6.out (by simp) ?_)
  intro w8 hr ho hs hB
  have HB8 : Hid (Below w.heap.size w w8) := hB _ _ hl HB6.out
  have HN8 : Hid (w8.heap[Q]? = some (.cells #[.int .i64 2, .int .i64 n, .int .i64 d, .int .i64 r', .int .i64 l, .int .i64 b, .int .i64 g, .int .i64 k] 27)) := hr
  have HP8 : Hid (w8.heap[w.heap.size]? = some (.cells #[.int .i64 2, .int .i64 n, .int .i64 d, .int .i64 r, .int .i64 l, .int .i64 b, .int .i64 g, .int .i64 k] 27)) := (ho _ (by omega)).trans HP6.out
  have HZ8 : Hid (w8.heap[w.heap.size + 1]? = some (.cells #[.int .i64 0, .int .i64 0, .int .i64 0, .int .i64 0, .int .i64 0, .int .i64 0, .int .i64 0, .int .i64 0] 27)) := (ho _ (by omega)).trans HZ6.out
  have p8 := box8_cells HP8.out
  have n8 := box8_cells HN8.out
  clear hr ho hs hB HB6 HN6 HP6 HZ6 p6 n6
  go_upto_region 16 with fail
  go_wp2_with (refine listStoreP rfl rfl _ _ _ rfl rfl (w.heap.size + 1) (2) (n) (d) (r') (l) (b) (g) (k) rfl rfl HZ8.out ?_)
  intro w99 hr9 ho9 hs9 hB9
  have HF : Hid (Below w.heap.size w w99) := hB9 _ _ (Nat.le_succ _) HB8.out
  obtain ⟨⟨q0, q1, q2, q3, q4, q5, q6, q7⟩, _⟩ := box8_cells hr9
  clear ho9 hs9 hB9 hr9
  go_wp2
  refine bodyPost_ret (v := .agg #[.int .i64 2, .int .i64 n, .int .i64 d, .int .i64 r', .int .i64 l, .int .i64 b, .int .i64 g, .int .i64 k]) (by simp only [results, Try.results20]; simp [go_sem, q0, q1, q2, q3, q4, q5, q6, q7]) rfl ⟨by rw [HT.out]; rfl, HF.out⟩
end Go.Proofs.Ytpjnmkijndmemaa
