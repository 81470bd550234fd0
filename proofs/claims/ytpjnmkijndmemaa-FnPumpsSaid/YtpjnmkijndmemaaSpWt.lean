/-
  PumpNew and Wants of the specification.
-/
import Derived.Test.YtpjnmkijndmemaaSpTk0
namespace Go.Proofs.Ytpjnmkijndmemaa
open Go.RowKit Go.PlainAid
set_option linter.unusedVariables false
set_option linter.unusedSimpArgs false

theorem lessS (a b z : Int) (hz : min a b = z) (w : World) : Calls Try.prog 40 #[.int .i64 a, .int .i64 b] w fun e w' => e = .returned (.int .i64 z) ∧ w' = w := by
  by_cases h : a < b
  · obtain rfl : a = z := by omega
    clear hz
    go_enter Try.func40, Try.ntmps40
    go_wp2
    go_ret
    exact ⟨rfl, rfl⟩
  · obtain rfl : b = z := by omega
    clear hz
    go_enter Try.func40, Try.ntmps40
    go_wp2
    go_ret
    exact ⟨rfl, rfl⟩
set_option maxRecDepth 100000 in
set_option maxHeartbeats 1000000 in
theorem newS (w : World) : Calls Try.prog 25 #[] w fun e w' => e = .returned newP.V ∧ Below w.heap.size w w' := by
  have HB0 : Hid (Below w.heap.size w (w.alloc (.cells #[.int .i64 0, .int .i64 0, .int .i64 0, .int .i64 0, .int .i64 0, .int .i64 0, .int .i64 0, .int .i64 0] 27))) := alP _ _
  have HZ0 : Hid ((w.alloc (.cells #[.int .i64 0, .int .i64 0, .int .i64 0, .int .i64 0, .int .i64 0, .int .i64 0, .int .i64 0, .int .i64 0] 27)).heap[w.heap.size]? = some (.cells #[.int .i64 0, .int .i64 0, .int .i64 0, .int .i64 0, .int .i64 0, .int .i64 0, .int .i64 0, .int .i64 0] 27)) := heap_new w _
  go_enter Try.func25, Try.ntmps25
  go_upto_region 1 with fail
  go_wp2_with (refine listStoreP rfl rfl _ _ _ rfl rfl w.heap.size 0 0 1 0 0 0 0 0 rfl rfl HZ0.out ?_)
  intro w9 hr9 ho9 hs9 hB9
  have HF : Hid (Below w.heap.size w w9) := hB9 _ _ (Nat.le_refl _) HB0.out
  obtain ⟨⟨q0, q1, q2, q3, q4, q5, q6, q7⟩, _⟩ := box8_cells hr9
  clear ho9 hs9 hB9 hr9
  go_wp2
  refine bodyPost_ret (v := newP.V) (by simp only [results, Try.results25]; simp [go_sem, q0, q1, q2, q3, q4, q5, q6, q7, newP, Pm.V]) rfl ⟨rfl, HF.out⟩
set_option maxRecDepth 100000 in
set_option maxHeartbeats 2000000 in
theorem wantsS_no (s n d r l b g k : Int) (hp : ¬ Pm.ok ⟨s, n, d, r, l, b, g, k⟩) (w : World) : Calls Try.prog 23 #[.agg #[.int .i64 s, .int .i64 n, .int .i64 d, .int .i64 r, .int .i64 l, .int .i64 b, .int .i64 g, .int .i64 k]] w fun e w' => e = .returned (.int .i64 (Pm.wants ⟨s, n, d, r, l, b, g, k⟩)) ∧ Below w.heap.size w w' := by
  have HT : Hid (Pm.wants ⟨s, n, d, r, l, b, g, k⟩ = 0) := by show _ = _; unfold Pm.wants; rw [ok_no hp]; simp
  have KP : Hid (∀ w, Calls Try.prog 27 #[.agg #[.int .i64 s, .int .i64 n, .int .i64 d, .int .i64 r, .int .i64 l, .int .i64 b, .int .i64 g, .int .i64 k]] w fun e w' => e = .returned (.bool false) ∧ Below w.heap.size w w') := fun w => pumpokS ⟨s, n, d, r, l, b, g, k⟩ false ⟨fun h => (by cases h), fun h => absurd h hp⟩ w
  clear hp
  have HB0 : Hid (Below w.heap.size w (w.alloc (.cells #[.int .i64 s, .int .i64 n, .int .i64 d, .int .i64 r, .int .i64 l, .int .i64 b, .int .i64 g, .int .i64 k] 27))) := alP _ _
  have HP0 : Hid ((w.alloc (.cells #[.int .i64 s, .int .i64 n, .int .i64 d, .int .i64 r, .int .i64 l, .int .i64 b, .int .i64 g, .int .i64 k] 27)).heap[w.heap.size]? = some (.cells #[.int .i64 s, .int .i64 n, .int .i64 d, .int .i64 r, .int .i64 l, .int .i64 b, .int .i64 g, .int .i64 k] 27)) := heap_new w _
  have p0 := box8_cells HP0.out
  go_enter Try.func23, Try.ntmps23
  go_wp2_with fail
  refine Calls.mono (KP.out _) ?_
  rintro e w1 ⟨rfl, hb1⟩
  have HB1 : Hid (Below w.heap.size w w1) := bel_on (Nat.le_refl _) HB0.out hb1
  have HP1 : Hid (w1.heap[w.heap.size]? = some (.cells #[.int .i64 s, .int .i64 n, .int .i64 d, .int .i64 r, .int .i64 l, .int .i64 b, .int .i64 g, .int .i64 k] 27)) := row_on HP0.out hb1
  have p1 := box8_cells HP1.out
  clear hb1 HB0 HP0 p0
  go_wp2
  go_ret
  exact ⟨by rw [HT.out]; rfl, HB1.out⟩
set_option maxRecDepth 100000 in
set_option maxHeartbeats 2000000 in
theorem wantsS_0 (n d r l b g k : Int) (hp : Pm.ok ⟨0, n, d, r, l, b, g, k⟩) (w : World) : Calls Try.prog 23 #[.agg #[.int .i64 0, .int .i64 n, .int .i64 d, .int .i64 r, .int .i64 l, .int .i64 b, .int .i64 g, .int .i64 k]] w fun e w' => e = .returned (.int .i64 (Pm.wants ⟨0, n, d, r, l, b, g, k⟩)) ∧ Below w.heap.size w w' := by
  have HT : Hid (Pm.wants ⟨0, n, d, r, l, b, g, k⟩ = 0) := by show _ = _; unfold Pm.wants; simp
  have KP : Hid (∀ w, Calls Try.prog 27 #[.agg #[.int .i64 0, .int .i64 n, .int .i64 d, .int .i64 r, .int .i64 l, .int .i64 b, .int .i64 g, .int .i64 k]] w fun e w' => e = .returned (.bool true) ∧ Below w.heap.size w w') := fun w => pumpokS ⟨0, n, d, r, l, b, g, k⟩ true ⟨fun _ => hp, fun _ => rfl⟩ w
  clear hp
  have HB0 : Hid (Below w.heap.size w (w.alloc (.cells #[.int .i64 0, .int .i64 n, .int .i64 d, .int .i64 r, .int .i64 l, .int .i64 b, .int .i64 g, .int .i64 k] 27))) := alP _ _
  have HP0 : Hid ((w.alloc (.cells #[.int .i64 0, .int .i64 n, .int .i64 d, .int .i64 r, .int .i64 l, .int .i64 b, .int .i64 g, .int .i64 k] 27)).heap[w.heap.size]? = some (.cells #[.int .i64 0, .int .i64 n, .int .i64 d, .int .i64 r, .int .i64 l, .int .i64 b, .int .i64 g, .int .i64 k] 27)) := heap_new w _
  have p0 := box8_cells HP0.out
  go_enter Try.func23, Try.ntmps23
  go_wp2_with fail
  refine Calls.mono (KP.out _) ?_
  rintro e w1 ⟨rfl, hb1⟩
  have HB1 : Hid (Below w.heap.size w w1) := bel_on (Nat.le_refl _) HB0.out hb1
  have HP1 : Hid (w1.heap[w.heap.size]? = some (.cells #[.int .i64 0, .int .i64 n, .int .i64 d, .int .i64 r, .int .i64 l, .int .i64 b, .int .i64 g, .int .i64 k] 27)) := row_on HP0.out hb1
  have p1 := box8_cells HP1.out
  clear hb1 HB0 HP0 p0
  go_wp2
  go_ret
  exact ⟨by rw [HT.out]; rfl, HB1.out⟩
set_option maxRecDepth 100000 in
set_option maxHeartbeats 2000000 in
theorem wantsS_3 (n d r l b g k : Int) (hp : Pm.ok ⟨3, n, d, r, l, b, g, k⟩) (w : World) : Calls Try.prog 23 #[.agg #[.int .i64 3, .int .i64 n, .int .i64 d, .int .i64 r, .int .i64 l, .int .i64 b, .int .i64 g, .int .i64 k]] w fun e w' => e = .returned (.int .i64 (Pm.wants ⟨3, n, d, r, l, b, g, k⟩)) ∧ Below w.heap.size w w' := by
  have HT : Hid (Pm.wants ⟨3, n, d, r, l, b, g, k⟩ = 0) := by show _ = _; unfold Pm.wants; simp
  have KP : Hid (∀ w, Calls Try.prog 27 #[.agg #[.int .i64 3, .int .i64 n, .int .i64 d, .int .i64 r, .int .i64 l, .int .i64 b, .int .i64 g, .int .i64 k]] w fun e w' => e = .returned (.bool true) ∧ Below w.heap.size w w') := fun w => pumpokS ⟨3, n, d, r, l, b, g, k⟩ true ⟨fun _ => hp, fun _ => rfl⟩ w
  clear hp
  have HB0 : Hid (Below w.heap.size w (w.alloc (.cells #[.int .i64 3, .int .i64 n, .int .i64 d, .int .i64 r, .int .i64 l, .int .i64 b, .int .i64 g, .int .i64 k] 27))) := alP _ _
  have HP0 : Hid ((w.alloc (.cells #[.int .i64 3, .int .i64 n, .int .i64 d, .int .i64 r, .int .i64 l, .int .i64 b, .int .i64 g, .int .i64 k] 27)).heap[w.heap.size]? = some (.cells #[.int .i64 3, .int .i64 n, .int .i64 d, .int .i64 r, .int .i64 l, .int .i64 b, .int .i64 g, .int .i64 k] 27)) := heap_new w _
  have p0 := box8_cells HP0.out
  go_enter Try.func23, Try.ntmps23
  go_wp2_with fail
  refine Calls.mono (KP.out _) ?_
  rintro e w1 ⟨rfl, hb1⟩
  have HB1 : Hid (Below w.heap.size w w1) := bel_on (Nat.le_refl _) HB0.out hb1
  have HP1 : Hid (w1.heap[w.heap.size]? = some (.cells #[.int .i64 3, .int .i64 n, .int .i64 d, .int .i64 r, .int .i64 l, .int .i64 b, .int .i64 g, .int .i64 k] 27)) := row_on HP0.out hb1
  have p1 := box8_cells HP1.out
  clear hb1 HB0 HP0 p0
  go_wp2
  go_ret
  exact ⟨by rw [HT.out]; rfl, HB1.out⟩
set_option maxRecDepth 100000 in
set_option maxHeartbeats 2000000 in
theorem wantsS_1 (n d r l b g k : Int) (hp : Pm.ok ⟨1, n, d, r, l, b, g, k⟩) (w : World) : Calls Try.prog 23 #[.agg #[.int .i64 1, .int .i64 n, .int .i64 d, .int .i64 r, .int .i64 l, .int .i64 b, .int .i64 g, .int .i64 k]] w fun e w' => e = .returned (.int .i64 (Pm.wants ⟨1, n, d, r, l, b, g, k⟩)) ∧ Below w.heap.size w w' := by
  obtain ⟨y, hy⟩ : ∃ y, (r + n) / d = y := ⟨_, rfl⟩
  have hrt := rate_bd hp
  unfold Pm.rate at hrt
  dsimp only at hrt
  rw [hy] at hrt
  obtain ⟨y0, y1⟩ := hrt
  have hpb : (0 : Int) ≤ b ∧ b ≤ 100 := hp.2.2.2.2.2.1
  have hpl : (0 : Int) ≤ l ∧ l ≤ 5000 := hp.2.2.2.1
  obtain ⟨x, hx⟩ : ∃ x, min y l = x := ⟨_, rfl⟩
  obtain ⟨q, hq⟩ : ∃ q, min b 3 = q := ⟨_, rfl⟩
  have HX : Hid (min y l = x) := hx
  have HQ : Hid (min b 3 = q) := hq
  have hrr : ratR n d r := hp.2.1
  have KR : Hid (∀ w, Calls Try.prog 41 #[.agg #[.int .i64 n, .int .i64 d, .int .i64 r]] w fun e w' => e = .returned (.tuple #[.agg #[.int .i64 n, .int .i64 d, .int .i64 ((r + n) % d)], .int .i64 y]) ∧ Below w.heap.size w w') := fun w => by
    have h := stepRS n d r w
    rw [show stepR n d r = (r + n) % d from if_pos hrr, show stepO n d r = y from (if_pos hrr).trans hy] at h
    exact h
  have HT : Hid (Pm.wants ⟨1, n, d, r, l, b, g, k⟩ = x + q) := by
    show _ = _
    unfold Pm.wants Pm.base Pm.rate
    rw [ok_yes hp]
    simp [hy, hx, hq]
  have e1 : IntKind.i64.wrap (x + q) = x + q := wrap_in (by omega) (by omega)
  have KP : Hid (∀ w, Calls Try.prog 27 #[.agg #[.int .i64 1, .int .i64 n, .int .i64 d, .int .i64 r, .int .i64 l, .int .i64 b, .int .i64 g, .int .i64 k]] w fun e w' => e = .returned (.bool true) ∧ Below w.heap.size w w') := fun w => pumpokS ⟨1, n, d, r, l, b, g, k⟩ true ⟨fun _ => hp, fun _ => rfl⟩ w
  clear hp hrr hy hx hq hpb hpl y0 y1
  have HB0 : Hid (Below w.heap.size w (w.alloc (.cells #[.int .i64 1, .int .i64 n, .int .i64 d, .int .i64 r, .int .i64 l, .int .i64 b, .int .i64 g, .int .i64 k] 27))) := alP _ _
  have HP0 : Hid ((w.alloc (.cells #[.int .i64 1, .int .i64 n, .int .i64 d, .int .i64 r, .int .i64 l, .int .i64 b, .int .i64 g, .int .i64 k] 27)).heap[w.heap.size]? = some (.cells #[.int .i64 1, .int .i64 n, .int .i64 d, .int .i64 r, .int .i64 l, .int .i64 b, .int .i64 g, .int .i64 k] 27)) := heap_new w _
  have p0 := box8_cells HP0.out
  go_enter Try.func23, Try.ntmps23
  go_wp2_with fail
  refine Calls.mono (KP.out _) ?_
  rintro e w1 ⟨rfl, hb1⟩
  have HB1 : Hid (Below w.heap.size w w1) := bel_on (Nat.le_refl _) HB0.out hb1
  have HP1 : Hid (w1.heap[w.heap.size]? = some (.cells #[.int .i64 1, .int .i64 n, .int .i64 d, .int .i64 r, .int .i64 l, .int .i64 b, .int .i64 g, .int .i64 k] 27)) := row_on HP0.out hb1
  have p1 := box8_cells HP1.out
  clear hb1 HB0 HP0 p0
  go_wp2_with fail
  refine Calls.mono (KR.out _) ?_
  rintro e w2 ⟨rfl, hb2⟩
  obtain ⟨r', hr'⟩ : ∃ z, (r + n) % d = z := ⟨_, rfl⟩
  rw [hr']
  have HB2 : Hid (Below w.heap.size w (w2.alloc (.cells #[.int .i64 n, .int .i64 d, .int .i64 r'] 25))) := bel_on (Nat.le_refl _) (bel_on (Nat.le_refl _) HB1.out hb2) (alP _ _)
  have HP2 : Hid ((w2.alloc (.cells #[.int .i64 n, .int .i64 d, .int .i64 r'] 25)).heap[w.heap.size]? = some (.cells #[.int .i64 1, .int .i64 n, .int .i64 d, .int .i64 r, .int .i64 l, .int .i64 b, .int .i64 g, .int .i64 k] 27)) := row_on (row_on HP1.out hb2) (alP _ _)
  have p2 := box8_cells HP2.out
  clear hb2 HB1 HP1 p1 hr' KR KP
  go_wp2_with fail
  refine (lessS y l x HX.out _).mono ?_
  rintro e wz ⟨rfl, rfl⟩
  go_wp2_with fail
  refine (lessS b 3 q HQ.out _).mono ?_
  rintro e wz ⟨rfl, rfl⟩
  go_wp2
  go_ret
  exact ⟨by rw [HT.out]; rfl, HB2.out⟩
set_option maxRecDepth 100000 in
set_option maxHeartbeats 2000000 in
theorem wantsS_2 (n d r l b g k : Int) (hp : Pm.ok ⟨2, n, d, r, l, b, g, k⟩) (w : World) : Calls Try.prog 23 #[.agg #[.int .i64 2, .int .i64 n, .int .i64 d, .int .i64 r, .int .i64 l, .int .i64 b, .int .i64 g, .int .i64 k]] w fun e w' => e = .returned (.int .i64 (Pm.wants ⟨2, n, d, r, l, b, g, k⟩)) ∧ Below w.heap.size w w' := by
  obtain ⟨y, hy⟩ : ∃ y, (r + n) / d = y := ⟨_, rfl⟩
  have hrt := rate_bd hp
  unfold Pm.rate at hrt
  dsimp only at hrt
  rw [hy] at hrt
  obtain ⟨y0, y1⟩ := hrt
  have hpb : (0 : Int) ≤ b ∧ b ≤ 100 := hp.2.2.2.2.2.1
  have hpl : (0 : Int) ≤ l ∧ l ≤ 5000 := hp.2.2.2.1
  obtain ⟨x, hx⟩ : ∃ x, min y l = x := ⟨_, rfl⟩
  obtain ⟨q, hq⟩ : ∃ q, min b 3 = q := ⟨_, rfl⟩
  have HX : Hid (min y l = x) := hx
  have HQ : Hid (min b 3 = q) := hq
  have hrr : ratR n d r := hp.2.1
  have KR : Hid (∀ w, Calls Try.prog 41 #[.agg #[.int .i64 n, .int .i64 d, .int .i64 r]] w fun e w' => e = .returned (.tuple #[.agg #[.int .i64 n, .int .i64 d, .int .i64 ((r + n) % d)], .int .i64 y]) ∧ Below w.heap.size w w') := fun w => by
    have h := stepRS n d r w
    rw [show stepR n d r = (r + n) % d from if_pos hrr, show stepO n d r = y from (if_pos hrr).trans hy] at h
    exact h
  have HT : Hid (Pm.wants ⟨2, n, d, r, l, b, g, k⟩ = y + q) := by
    show _ = _
    unfold Pm.wants Pm.base Pm.rate
    rw [ok_yes hp]
    simp [hy, hx, hq]
  have e1 : IntKind.i64.wrap (y + q) = y + q := wrap_in (by omega) (by omega)
  have KP : Hid (∀ w, Calls Try.prog 27 #[.agg #[.int .i64 2, .int .i64 n, .int .i64 d, .int .i64 r, .int .i64 l, .int .i64 b, .int .i64 g, .int .i64 k]] w fun e w' => e = .returned (.bool true) ∧ Below w.heap.size w w') := fun w => pumpokS ⟨2, n, d, r, l, b, g, k⟩ true ⟨fun _ => hp, fun _ => rfl⟩ w
  clear hp hrr hy hx hq hpb hpl y0 y1
  have HB0 : Hid (Below w.heap.size w (w.alloc (.cells #[.int .i64 2, .int .i64 n, .int .i64 d, .int .i64 r, .int .i64 l, .int .i64 b, .int .i64 g, .int .i64 k] 27))) := alP _ _
  have HP0 : Hid ((w.alloc (.cells #[.int .i64 2, .int .i64 n, .int .i64 d, .int .i64 r, .int .i64 l, .int .i64 b, .int .i64 g, .int .i64 k] 27)).heap[w.heap.size]? = some (.cells #[.int .i64 2, .int .i64 n, .int .i64 d, .int .i64 r, .int .i64 l, .int .i64 b, .int .i64 g, .int .i64 k] 27)) := heap_new w _
  have p0 := box8_cells HP0.out
  go_enter Try.func23, Try.ntmps23
  go_wp2_with fail
  refine Calls.mono (KP.out _) ?_
  rintro e w1 ⟨rfl, hb1⟩
  have HB1 : Hid (Below w.heap.size w w1) := bel_on (Nat.le_refl _) HB0.out hb1
  have HP1 : Hid (w1.heap[w.heap.size]? = some (.cells #[.int .i64 2, .int .i64 n, .int .i64 d, .int .i64 r, .int .i64 l, .int .i64 b, .int .i64 g, .int .i64 k] 27)) := row_on HP0.out hb1
  have p1 := box8_cells HP1.out
  clear hb1 HB0 HP0 p0
  go_wp2_with fail
  refine Calls.mono (KR.out _) ?_
  rintro e w2 ⟨rfl, hb2⟩
  obtain ⟨r', hr'⟩ : ∃ z, (r + n) % d = z := ⟨_, rfl⟩
  rw [hr']
  have HB2 : Hid (Below w.heap.size w (w2.alloc (.cells #[.int .i64 n, .int .i64 d, .int .i64 r'] 25))) := bel_on (Nat.le_refl _) (bel_on (Nat.le_refl _) HB1.out hb2) (alP _ _)
  have HP2 : Hid ((w2.alloc (.cells #[.int .i64 n, .int .i64 d, .int .i64 r'] 25)).heap[w.heap.size]? = some (.cells #[.int .i64 2, .int .i64 n, .int .i64 d, .int .i64 r, .int .i64 l, .int .i64 b, .int .i64 g, .int .i64 k] 27)) := row_on (row_on HP1.out hb2) (alP _ _)
  have p2 := box8_cells HP2.out
  clear hb2 HB1 HP1 p1 hr' KR KP
  go_wp2_with fail
  refine (lessS b 3 q HQ.out _).mono ?_
  rintro e wz ⟨rfl, rfl⟩
  go_wp2
  go_ret
  exact ⟨by rw [HT.out]; rfl, HB2.out⟩
theorem wantsS (p : Pm) (w : World) : Calls Try.prog 23 #[p.V] w fun e w' => e = .returned (.int .i64 p.wants) ∧ Below w.heap.size w w' := by
  obtain ⟨s, n, d, r, l, b, g, k⟩ := p
  by_cases hp : Pm.ok ⟨s, n, d, r, l, b, g, k⟩
  · have hs : s = 0 ∨ s = 1 ∨ s = 2 ∨ s = 3 := by have := hp.1; dsimp only at this; omega
    rcases hs with rfl | rfl | rfl | rfl
    · exact wantsS_0 n d r l b g k hp w
    · exact wantsS_1 n d r l b g k hp w
    · exact wantsS_2 n d r l b g k hp w
    · exact wantsS_3 n d r l b g k hp w
  · exact wantsS_no s n d r l b g k hp w
end Go.Proofs.Ytpjnmkijndmemaa
