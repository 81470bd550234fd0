/-
  Drawn pumps, right or not; DrawTake.
-/
import Derived.Test.YtpjnmkijndmemaaDrawRt
import Derived.Test.YtpjnmkijndmemaaDrawPm
namespace Go.Proofs.Ytpjnmkijndmemaa.I
open Go.RowKit Go.PlainAid
set_option linter.unusedVariables false
set_option linter.unusedSimpArgs false

/-- what stands while a pump is spoilt: the cursor, the result's block, the pump's block -/
def DPm (w W : World) (C B : Nat) (a : Option Addr) (len cap : Nat) (K : Nat) (s n d r l b g k : Int) : Prop :=
  Drawn w W C B a len cap ∧ W.heap[w.heap.size]? = some (.cells #[.int .i64 0, .int .i64 0, .int .i64 0, .int .i64 0, .int .i64 0, .int .i64 0, .int .i64 0, .int .i64 0] 27) ∧ W.heap[K]? = some (.cells #[.int .i64 s, .int .i64 n, .int .i64 d, .int .i64 r, .int .i64 l, .int .i64 b, .int .i64 g, .int .i64 k] 27) ∧ C < w.heap.size ∧ B ≤ C ∧ w.heap.size < K
theorem DPm.on {w W W' : World} {C B : Nat} {a : Option Addr} {len cap K : Nat} {s n d r l b g k : Int} (h : DPm w W C B a len cap K s n d r l b g k) (hD : Drawn W W' C B a len cap) : DPm w W' C B a len cap K s n d r l b g k := by
  obtain ⟨h1, h2, h3, h4, h5, h6⟩ := h
  exact ⟨drawn_trans h1 hD, row_drawn h2 hD.2.2 (by omega), row_drawn h3 hD.2.2 (by omega), h4, h5, h6⟩
theorem DPm.al {w W : World} {C B : Nat} {a : Option Addr} {len cap K : Nat} {s n d r l b g k : Int} (h : DPm w W C B a len cap K s n d r l b g k) (o : Obj) : DPm w (W.alloc o) C B a len cap K s n d r l b g k := by
  obtain ⟨h1, h2, h3, h4, h5, h6⟩ := h
  have hs := h1.2.2.size
  exact ⟨drawn_alloc h1 (by omega) _, (Below.heap_alloc _ _ _ (row_lt h2)).trans h2, (Below.heap_alloc _ _ _ (row_lt h3)).trans h3, h4, h5, h6⟩
theorem DPm.st {w W W' : World} {C B : Nat} {a : Option Addr} {len cap K : Nat} {s n d r l b g k s' n' d' r' l' b' g' k' : Int} (h : DPm w W C B a len cap K s n d r l b g k) (hr : W'.heap[K]? = some (.cells #[.int .i64 s', .int .i64 n', .int .i64 d', .int .i64 r', .int .i64 l', .int .i64 b', .int .i64 g', .int .i64 k'] 27)) (ho : ∀ m, m ≠ K → W'.heap[m]? = W.heap[m]?) (hs : W'.heap.size = W.heap.size) (hB : ∀ B W0, B ≤ K → Below B W0 W → Below B W0 W') : DPm w W' C B a len cap K s' n' d' r' l' b' g' k' := by
  obtain ⟨h1, h2, h3, h4, h5, h6⟩ := h
  exact ⟨drawn_hb h1 hs ho (hB 0 W (Nat.zero_le _) (Below.refl _ _)) (by omega) h4 (by omega), (ho _ (by omega)).trans h2, hr, h4, h5, h6⟩
theorem DPm.fin {w W W' : World} {C B : Nat} {a : Option Addr} {len cap K : Nat} {s n d r l b g k : Int} (h : DPm w W C B a len cap K s n d r l b g k) (ho : ∀ m, m ≠ w.heap.size → W'.heap[m]? = W.heap[m]?) (hs : W'.heap.size = W.heap.size) (hB : ∀ B W0, B ≤ w.heap.size → Below B W0 W → Below B W0 W') : Drawn w W' C B a len cap :=
  drawn_hb h.1 hs ho (hB 0 W (Nat.zero_le _) (Below.refl _ _)) (Nat.le_refl _) h.2.2.2.1 (by have := h.2.2.2.1; have := h.2.2.2.2.1; omega)
theorem s4row {w : World} {g : Nat} {T : TypeId} {u0 u1 u2 u3 : Value} (z0 z1 z2 z3 : Int) (hg : w.heap[g]? = some (.cells #[u0, u1, u2, u3] T)) : ((((w.setCell ⟨g, 0, none⟩ (.int .i64 z0)).setCell ⟨g, 1, none⟩ (.int .i64 z1)).setCell ⟨g, 2, none⟩ (.int .i64 z2)).setCell ⟨g, 3, none⟩ (.int .i64 z3)).heap[g]? = some (.cells #[.int .i64 z0, .int .i64 z1, .int .i64 z2, .int .i64 z3] T) := by
  have h0 : (w.setCell ⟨g, 0, none⟩ (.int .i64 z0)).heap[g]? = some (.cells #[.int .i64 z0, u1, u2, u3] T) := set_rowP hg 0 (.int .i64 z0)
  have h1 : ((w.setCell ⟨g, 0, none⟩ (.int .i64 z0)).setCell ⟨g, 1, none⟩ (.int .i64 z1)).heap[g]? = some (.cells #[.int .i64 z0, .int .i64 z1, u2, u3] T) := set_rowP h0 1 (.int .i64 z1)
  have h2 : (((w.setCell ⟨g, 0, none⟩ (.int .i64 z0)).setCell ⟨g, 1, none⟩ (.int .i64 z1)).setCell ⟨g, 2, none⟩ (.int .i64 z2)).heap[g]? = some (.cells #[.int .i64 z0, .int .i64 z1, .int .i64 z2, u3] T) := set_rowP h1 2 (.int .i64 z2)
  exact set_rowP h2 3 (.int .i64 z3)
set_option maxRecDepth 100000 in
set_option maxHeartbeats 8000000 in
theorem anyPD (C B : Nat) (a : Option Addr) (len cap : Nat) (w : World) (hC : Cur w C a len cap) (hB : B ≤ C) (hcode : CodeOk w B a len) :
    Calls Try.prog 32 #[.pointer (some ⟨C, 0, none⟩)] w fun e w' => ∃ p : Pm, e = .returned p.V ∧ Drawn w w' C B a len cap := by
  have hlt := cur_lt hC
  have HD0 : Hid (Drawn w (w.alloc (.cells #[.int .i64 0, .int .i64 0, .int .i64 0, .int .i64 0, .int .i64 0, .int .i64 0, .int .i64 0, .int .i64 0] 27)) C B a len cap) := drawn_alloc ⟨hC, hcode, World.grownBy.refl _ _⟩ (by omega) _
  have HZ0 : Hid ((w.alloc (.cells #[.int .i64 0, .int .i64 0, .int .i64 0, .int .i64 0, .int .i64 0, .int .i64 0, .int .i64 0, .int .i64 0] 27)).heap[w.heap.size]? = some (.cells #[.int .i64 0, .int .i64 0, .int .i64 0, .int .i64 0, .int .i64 0, .int .i64 0, .int .i64 0, .int .i64 0] 27)) := heap_new w _
  clear hC hcode
  go_enter Try.func32, Try.ntmps32
  go_wp2_with fail
  refine (pumpD C B a len cap _ HD0.out.1 hB HD0.out.2.1).mono ?_
  rintro e w1 ⟨p, rfl, _, hD⟩
  obtain ⟨s, n, d, r, l, b, g, k⟩ := p
  have hs := hD.2.2.size
  have HD1 : Hid (Drawn w w1 C B a len cap) := drawn_trans HD0.out hD
  have HZ1 : w1.heap[w.heap.size]? = some (.cells #[.int .i64 0, .int .i64 0, .int .i64 0, .int .i64 0, .int .i64 0, .int .i64 0, .int .i64 0, .int .i64 0] 27) := row_drawn HZ0.out hD.2.2 (by omega)
  have hs1 := row_lt HZ1
  have HI : Hid (DPm w (w1.alloc (.cells #[.int .i64 s, .int .i64 n, .int .i64 d, .int .i64 r, .int .i64 l, .int .i64 b, .int .i64 g, .int .i64 k] 27)) C B a len cap w1.heap.size s n d r l b g k) := ⟨drawn_alloc HD1.out (by omega) _, (Below.heap_alloc _ _ _ hs1).trans HZ1, heap_new w1 _, hlt, hB, hs1⟩
  clear hD HD0 HZ0 HD1 HZ1 hs
  simp only [Pm.V]
  go_wp2_with fail
  refine (below28 C B a len cap 16 (by omega) (by omega) _ HI.out.1.1 hB HI.out.1.2.1).mono ?_
  rintro e w2 ⟨x, rfl, x0, x1, hD⟩
  have HI2 : Hid (DPm w w2 C B a len cap w1.heap.size s n d r l b g k) := HI.out.on hD
  clear hD HI
  by_cases h0 : x = 0
  · subst h0
    go_wp2_with fail
    refine (below28 C B a len cap 5 (by omega) (by omega) _ HI2.out.1.1 hB HI2.out.1.2.1).mono ?_
    rintro e w4 ⟨y, rfl, _, _, hD⟩
    have HI4 : Hid (DPm w w4 C B a len cap w1.heap.size s n d r l b g k) := HI2.out.on hD
    clear hD HI2
    go_wp2_with (refine listStoreC rfl rfl _ _ _ rfl rfl w1.heap.size 0 y rfl rfl HI4.out.2.2.1 (by simp) ?_)
    intro w5 hr ho hs hB
    have HI5 : Hid (DPm w w5 C B a len cap w1.heap.size y n d r l b g k) := HI4.out.st hr ho hs hB
    clear hr ho hs hB HI4
    have kk := box8_cells HI5.out.2.2.1
    go_upto_region 15 with fail
    go_wp2_with (refine listStoreP rfl rfl _ _ _ rfl rfl w.heap.size (y) (n) (d) (r) (l) (b) (g) (k) rfl rfl HI5.out.2.1 ?_)
    intro w9 hr9 ho9 hs9 hB9
    have HF : Hid (Drawn w w9 C B a len cap) := HI5.out.fin ho9 hs9 hB9
    obtain ⟨⟨z0, z1, z2, z3, z4, z5, z6, z7⟩, _⟩ := box8_cells hr9
    clear hr9 ho9 hs9 hB9 HI5 kk
    go_wp2
    refine bodyPost_ret (v := .agg #[.int .i64 y, .int .i64 n, .int .i64 d, .int .i64 r, .int .i64 l, .int .i64 b, .int .i64 g, .int .i64 k]) (by simp only [results, Try.results32]; simp [go_sem, z0, z1, z2, z3, z4, z5, z6, z7]) rfl ⟨⟨y, n, d, r, l, b, g, k⟩, rfl, HF.out⟩
  have q0 : (x == 0) = false := by simpa using h0
  by_cases h1 : x = 1
  · subst h1
    have HLI : Hid _ := laid_ints w2 [-1, 0, 1, 5000, 5001]
    have hs2 := row_lt HI2.out.2.2.1
    have HIa : Hid (DPm w (w2.alloc (.cells (([-1, 0, 1, 5000, 5001] : List Int).map (Value.int .i64)).toArray 3)) C B a len cap w1.heap.size s n d r l b g k) := HI2.out.al _
    go_wp2_with fail
    refine (pick26' C B a len cap [-1, 0, 1, 5000, 5001] 5 _ _ rfl (by omega) (by omega) _ HIa.out.1.1 hB HIa.out.1.2.1 (by omega) (by simp) HLI.out).mono ?_
    rintro e w4 ⟨y, rfl, _, hD⟩
    have HI4 : Hid (DPm w w4 C B a len cap w1.heap.size s n d r l b g k) := HIa.out.on hD
    clear hD HI2 HIa HLI
    go_wp2_with (refine listStoreC rfl rfl _ _ _ rfl rfl w1.heap.size 4 y rfl rfl HI4.out.2.2.1 (by simp) ?_)
    intro w5 hr ho hs hB
    have HI5 : Hid (DPm w w5 C B a len cap w1.heap.size s n d r y b g k) := HI4.out.st hr ho hs hB
    clear hr ho hs hB HI4
    have kk := box8_cells HI5.out.2.2.1
    go_upto_region 15 with fail
    go_wp2_with (refine listStoreP rfl rfl _ _ _ rfl rfl w.heap.size (s) (n) (d) (r) (y) (b) (g) (k) rfl rfl HI5.out.2.1 ?_)
    intro w9 hr9 ho9 hs9 hB9
    have HF : Hid (Drawn w w9 C B a len cap) := HI5.out.fin ho9 hs9 hB9
    obtain ⟨⟨z0, z1, z2, z3, z4, z5, z6, z7⟩, _⟩ := box8_cells hr9
    clear hr9 ho9 hs9 hB9 HI5 kk
    go_wp2
    refine bodyPost_ret (v := .agg #[.int .i64 s, .int .i64 n, .int .i64 d, .int .i64 r, .int .i64 y, .int .i64 b, .int .i64 g, .int .i64 k]) (by simp only [results, Try.results32]; simp [go_sem, z0, z1, z2, z3, z4, z5, z6, z7]) rfl ⟨⟨s, n, d, r, y, b, g, k⟩, rfl, HF.out⟩
  have q1 : (x == 1) = false := by simpa using h1
  by_cases h2 : x = 2
  · subst h2
    have HLI : Hid _ := laid_ints w2 [-1, 0, 100, 101]
    have hs2 := row_lt HI2.out.2.2.1
    have HIa : Hid (DPm w (w2.alloc (.cells (([-1, 0, 100, 101] : List Int).map (Value.int .i64)).toArray 3)) C B a len cap w1.heap.size s n d r l b g k) := HI2.out.al _
    go_wp2_with fail
    refine (pick26' C B a len cap [-1, 0, 100, 101] 4 _ _ rfl (by omega) (by omega) _ HIa.out.1.1 hB HIa.out.1.2.1 (by omega) (by simp) HLI.out).mono ?_
    rintro e w4 ⟨y, rfl, _, hD⟩
    have HI4 : Hid (DPm w w4 C B a len cap w1.heap.size s n d r l b g k) := HIa.out.on hD
    clear hD HI2 HIa HLI
    go_wp2_with (refine listStoreC rfl rfl _ _ _ rfl rfl w1.heap.size 5 y rfl rfl HI4.out.2.2.1 (by simp) ?_)
    intro w5 hr ho hs hB
    have HI5 : Hid (DPm w w5 C B a len cap w1.heap.size s n d r l y g k) := HI4.out.st hr ho hs hB
    clear hr ho hs hB HI4
    have kk := box8_cells HI5.out.2.2.1
    go_upto_region 15 with fail
    go_wp2_with (refine listStoreP rfl rfl _ _ _ rfl rfl w.heap.size (s) (n) (d) (r) (l) (y) (g) (k) rfl rfl HI5.out.2.1 ?_)
    intro w9 hr9 ho9 hs9 hB9
    have HF : Hid (Drawn w w9 C B a len cap) := HI5.out.fin ho9 hs9 hB9
    obtain ⟨⟨z0, z1, z2, z3, z4, z5, z6, z7⟩, _⟩ := box8_cells hr9
    clear hr9 ho9 hs9 hB9 HI5 kk
    go_wp2
    refine bodyPost_ret (v := .agg #[.int .i64 s, .int .i64 n, .int .i64 d, .int .i64 r, .int .i64 l, .int .i64 y, .int .i64 g, .int .i64 k]) (by simp only [results, Try.results32]; simp [go_sem, z0, z1, z2, z3, z4, z5, z6, z7]) rfl ⟨⟨s, n, d, r, l, y, g, k⟩, rfl, HF.out⟩
  have q2 : (x == 2) = false := by simpa using h2
  by_cases h3 : x = 3
  · subst h3
    have HLI : Hid _ := laid_ints w2 [-1, 999999999999, 1000000000000, 1000000000001]
    have hs2 := row_lt HI2.out.2.2.1
    have HIa : Hid (DPm w (w2.alloc (.cells (([-1, 999999999999, 1000000000000, 1000000000001] : List Int).map (Value.int .i64)).toArray 3)) C B a len cap w1.heap.size s n d r l b g k) := HI2.out.al _
    go_wp2_with fail
    refine (pick26' C B a len cap [-1, 999999999999, 1000000000000, 1000000000001] 4 _ _ rfl (by omega) (by omega) _ HIa.out.1.1 hB HIa.out.1.2.1 (by omega) (by simp) HLI.out).mono ?_
    rintro e w4 ⟨y, rfl, _, hD⟩
    have HI4 : Hid (DPm w w4 C B a len cap w1.heap.size s n d r l b g k) := HIa.out.on hD
    clear hD HI2 HIa HLI
    go_wp2_with (refine listStoreC rfl rfl _ _ _ rfl rfl w1.heap.size 6 y rfl rfl HI4.out.2.2.1 (by simp) ?_)
    intro w5 hr ho hs hB
    have HI5 : Hid (DPm w w5 C B a len cap w1.heap.size s n d r l b y k) := HI4.out.st hr ho hs hB
    clear hr ho hs hB HI4
    have kk := box8_cells HI5.out.2.2.1
    go_upto_region 15 with fail
    go_wp2_with (refine listStoreP rfl rfl _ _ _ rfl rfl w.heap.size (s) (n) (d) (r) (l) (b) (y) (k) rfl rfl HI5.out.2.1 ?_)
    intro w9 hr9 ho9 hs9 hB9
    have HF : Hid (Drawn w w9 C B a len cap) := HI5.out.fin ho9 hs9 hB9
    obtain ⟨⟨z0, z1, z2, z3, z4, z5, z6, z7⟩, _⟩ := box8_cells hr9
    clear hr9 ho9 hs9 hB9 HI5 kk
    go_wp2
    refine bodyPost_ret (v := .agg #[.int .i64 s, .int .i64 n, .int .i64 d, .int .i64 r, .int .i64 l, .int .i64 b, .int .i64 y, .int .i64 k]) (by simp only [results, Try.results32]; simp [go_sem, z0, z1, z2, z3, z4, z5, z6, z7]) rfl ⟨⟨s, n, d, r, l, b, y, k⟩, rfl, HF.out⟩
  have q3 : (x == 3) = false := by simpa using h3
  by_cases h4 : x = 4
  · subst h4
    go_wp2_with fail
    refine (below28 C B a len cap 5 (by omega) (by omega) _ HI2.out.1.1 hB HI2.out.1.2.1).mono ?_
    rintro e w4 ⟨y, rfl, _, _, hD⟩
    have HI4 : Hid (DPm w w4 C B a len cap w1.heap.size s n d r l b g k) := HI2.out.on hD
    clear hD HI2
    go_wp2_with (refine listStoreC rfl rfl _ _ _ rfl rfl w1.heap.size 7 y rfl rfl HI4.out.2.2.1 (by simp) ?_)
    intro w5 hr ho hs hB
    have HI5 : Hid (DPm w w5 C B a len cap w1.heap.size s n d r l b g y) := HI4.out.st hr ho hs hB
    clear hr ho hs hB HI4
    have kk := box8_cells HI5.out.2.2.1
    go_upto_region 15 with fail
    go_wp2_with (refine listStoreP rfl rfl _ _ _ rfl rfl w.heap.size (s) (n) (d) (r) (l) (b) (g) (y) rfl rfl HI5.out.2.1 ?_)
    intro w9 hr9 ho9 hs9 hB9
    have HF : Hid (Drawn w w9 C B a len cap) := HI5.out.fin ho9 hs9 hB9
    obtain ⟨⟨z0, z1, z2, z3, z4, z5, z6, z7⟩, _⟩ := box8_cells hr9
    clear hr9 ho9 hs9 hB9 HI5 kk
    go_wp2
    refine bodyPost_ret (v := .agg #[.int .i64 s, .int .i64 n, .int .i64 d, .int .i64 r, .int .i64 l, .int .i64 b, .int .i64 g, .int .i64 y]) (by simp only [results, Try.results32]; simp [go_sem, z0, z1, z2, z3, z4, z5, z6, z7]) rfl ⟨⟨s, n, d, r, l, b, g, y⟩, rfl, HF.out⟩
  have q4 : (x == 4) = false := by simpa using h4
  by_cases h5 : x = 5
  · subst h5
    go_wp2_with fail
    refine (rate11 C B a len cap _ HI2.out.1.1 hB HI2.out.1.2.1).mono ?_
    rintro e w4 ⟨n2, d2, r2, rfl, hD⟩
    have HI4 : Hid (DPm w w4 C B a len cap w1.heap.size s n d r l b g k) := HI2.out.on hD
    clear hD HI2
    go_wp2_with (refine listStoreR rfl rfl _ _ _ rfl rfl w1.heap.size n2 d2 r2 rfl rfl HI4.out.2.2.1 ?_)
    intro w5 hr ho hs hB
    have HI5 : Hid (DPm w w5 C B a len cap w1.heap.size s n2 d2 r2 l b g k) := HI4.out.st hr ho hs hB
    clear hr ho hs hB HI4
    have kk := box8_cells HI5.out.2.2.1
    go_upto_region 15 with fail
    go_wp2_with (refine listStoreP rfl rfl _ _ _ rfl rfl w.heap.size (s) (n2) (d2) (r2) (l) (b) (g) (k) rfl rfl HI5.out.2.1 ?_)
    intro w9 hr9 ho9 hs9 hB9
    have HF : Hid (Drawn w w9 C B a len cap) := HI5.out.fin ho9 hs9 hB9
    obtain ⟨⟨z0, z1, z2, z3, z4, z5, z6, z7⟩, _⟩ := box8_cells hr9
    clear hr9 ho9 hs9 hB9 HI5 kk
    go_wp2
    refine bodyPost_ret (v := .agg #[.int .i64 s, .int .i64 n2, .int .i64 d2, .int .i64 r2, .int .i64 l, .int .i64 b, .int .i64 g, .int .i64 k]) (by simp only [results, Try.results32]; simp [go_sem, z0, z1, z2, z3, z4, z5, z6, z7]) rfl ⟨⟨s, n2, d2, r2, l, b, g, k⟩, rfl, HF.out⟩
  have q5 : (x == 5) = false := by simpa using h5
  have kk := box8_cells HI2.out.2.2.1
  go_upto_region 15 with fail
  go_wp2_with (refine listStoreP rfl rfl _ _ _ rfl rfl w.heap.size (s) (n) (d) (r) (l) (b) (g) (k) rfl rfl HI2.out.2.1 ?_)
  intro w9 hr9 ho9 hs9 hB9
  have HF : Hid (Drawn w w9 C B a len cap) := HI2.out.fin ho9 hs9 hB9
  obtain ⟨⟨z0, z1, z2, z3, z4, z5, z6, z7⟩, _⟩ := box8_cells hr9
  clear hr9 ho9 hs9 hB9 HI2 kk
  go_wp2
  refine bodyPost_ret (v := .agg #[.int .i64 s, .int .i64 n, .int .i64 d, .int .i64 r, .int .i64 l, .int .i64 b, .int .i64 g, .int .i64 k]) (by simp only [results, Try.results32]; simp [go_sem, z0, z1, z2, z3, z4, z5, z6, z7]) rfl ⟨⟨s, n, d, r, l, b, g, k⟩, rfl, HF.out⟩
set_option maxRecDepth 100000 in
set_option maxHeartbeats 4000000 in
theorem drawTk (a : Option Addr) (len cap : Nat) (w : World) (hcode : CodeOk w w.heap.size a len) :
    Calls Try.prog 15 #[.slice a len cap] w fun e w' => ∃ (p : Pm) (O1 O2 O3 O4 : Int), e = .returned (.tuple #[p.V, ordV O1 O2 O3 O4]) ∧ Below w.heap.size w w' := by
  have HB : Hid (Below w.heap.size w ((w.alloc (.cells #[.int .i64 0, .int .i64 0, .int .i64 0, .int .i64 0, .int .i64 0, .int .i64 0, .int .i64 0, .int .i64 0] 27)).alloc (.cells #[.int .i64 0, .int .i64 0, .int .i64 0, .int .i64 0] 30))) := bel_on (Nat.le_refl _) (alP _ _) (alP _ _)
  have HC : Hid (CodeOk ((w.alloc (.cells #[.int .i64 0, .int .i64 0, .int .i64 0, .int .i64 0, .int .i64 0, .int .i64 0, .int .i64 0, .int .i64 0] 27)).alloc (.cells #[.int .i64 0, .int .i64 0, .int .i64 0, .int .i64 0] 30)) w.heap.size a len) := code_below hcode HB.out
  have HZ : Hid (((w.alloc (.cells #[.int .i64 0, .int .i64 0, .int .i64 0, .int .i64 0, .int .i64 0, .int .i64 0, .int .i64 0, .int .i64 0] 27)).alloc (.cells #[.int .i64 0, .int .i64 0, .int .i64 0, .int .i64 0] 30)).heap[w.heap.size]? = some (.cells #[.int .i64 0, .int .i64 0, .int .i64 0, .int .i64 0, .int .i64 0, .int .i64 0, .int .i64 0, .int .i64 0] 27)) := row_on (heap_new w _) (alP _ _)
  have HY : Hid (((w.alloc (.cells #[.int .i64 0, .int .i64 0, .int .i64 0, .int .i64 0, .int .i64 0, .int .i64 0, .int .i64 0, .int .i64 0] 27)).alloc (.cells #[.int .i64 0, .int .i64 0, .int .i64 0, .int .i64 0] 30)).heap[w.heap.size + 1]? = some (.cells #[.int .i64 0, .int .i64 0, .int .i64 0, .int .i64 0] 30)) := al_at (w.alloc (.cells #[.int .i64 0, .int .i64 0, .int .i64 0, .int .i64 0, .int .i64 0, .int .i64 0, .int .i64 0, .int .i64 0] 27)) _ (by simp)
  clear hcode
  go_enter Try.func15, Try.ntmps15
  go_wp2_with fail
  refine (new23 w.heap.size a len cap _ HC.out HB.out.size).mono ?_
  rintro e w1 ⟨C, rfl, hC, hcu, hco, hb1⟩
  have hC1 : w.heap.size + 1 + 1 ≤ C := by simpa using hC
  have HD1 : Hid (Drawn w1 w1 C w.heap.size a len cap) := ⟨hcu, hco, World.grownBy.refl _ _⟩
  have HB1 : Hid (Below w.heap.size w w1) := bel_on (Nat.le_refl _) HB.out hb1
  have HZ1 : Hid (w1.heap[w.heap.size]? = some (.cells #[.int .i64 0, .int .i64 0, .int .i64 0, .int .i64 0, .int .i64 0, .int .i64 0, .int .i64 0, .int .i64 0] 27)) := row_on HZ.out hb1
  have HY1 : Hid (w1.heap[w.heap.size + 1]? = some (.cells #[.int .i64 0, .int .i64 0, .int .i64 0, .int .i64 0] 30)) := row_on HY.out hb1
  clear HC hcu hco hb1 HZ HB HY
  go_wp2_with fail
  refine (anyPD C w.heap.size a len cap _ HD1.out.1 (by omega) HD1.out.2.1).mono ?_
  rintro e w2 ⟨p, rfl, hD⟩
  obtain ⟨s, n, d, r, l, b, g, k⟩ := p
  have HB2 : Hid (Below w.heap.size w w2) := drawn_below HB1.out (by omega) hD
  have HZ2 : Hid (w2.heap[w.heap.size]? = some (.cells #[.int .i64 0, .int .i64 0, .int .i64 0, .int .i64 0, .int .i64 0, .int .i64 0, .int .i64 0, .int .i64 0] 27)) := row_drawn HZ1.out hD.2.2 (by omega)
  have HY2 : Hid (w2.heap[w.heap.size + 1]? = some (.cells #[.int .i64 0, .int .i64 0, .int .i64 0, .int .i64 0] 30)) := row_drawn HY1.out hD.2.2 (by omega)
  have HD2 : Hid (Drawn w1 w2 C w.heap.size a len cap) := hD
  clear hD HD1 HB1 HZ1 HY1
  simp only [Pm.V]
  go_wp2_with fail
  refine (anyOD C w.heap.size a len cap _ HD2.out.1 (by omega) HD2.out.2.1).mono ?_
  rintro e w3 ⟨O1, O2, O3, O4, rfl, hD⟩
  have HB3 : Hid (Below w.heap.size w w3) := drawn_below HB2.out (by omega) hD
  have HZ3 : Hid (w3.heap[w.heap.size]? = some (.cells #[.int .i64 0, .int .i64 0, .int .i64 0, .int .i64 0, .int .i64 0, .int .i64 0, .int .i64 0, .int .i64 0] 27)) := row_drawn HZ2.out hD.2.2 (by omega)
  have HY3 : Hid (w3.heap[w.heap.size + 1]? = some (.cells #[.int .i64 0, .int .i64 0, .int .i64 0, .int .i64 0] 30)) := row_drawn HY2.out hD.2.2 (by omega)
  clear hD HD2 HB2 HZ2 HY2
  simp only [ordV]
  go_wp2_with (refine listStoreP rfl rfl _ _ _ rfl rfl w.heap.size (s) (n) (d) (r) (l) (b) (g) (k) rfl rfl HZ3.out ?_)
  intro w9 hr9 ho9 hs9 hB9
  have HF : Hid (Below w.heap.size w w9) := hB9 _ _ (Nat.le_refl _) HB3.out
  have HY9 : Hid (w9.heap[w.heap.size + 1]? = some (.cells #[.int .i64 0, .int .i64 0, .int .i64 0, .int .i64 0] 30)) := (ho9 _ (by omega)).trans HY3.out
  have HP9 : Hid (w9.heap[w.heap.size]? = some (.cells #[.int .i64 s, .int .i64 n, .int .i64 d, .int .i64 r, .int .i64 l, .int .i64 b, .int .i64 g, .int .i64 k] 27)) := hr9
  have ky := box4_cells HY9.out
  clear ho9 hs9 hB9 hr9 HB3 HZ3 HY3
  go_wp2
  have HPn : Hid (((((w9.setCell ⟨w.heap.size + 1, 0, none⟩ (.int .i64 O1)).setCell ⟨w.heap.size + 1, 1, none⟩ (.int .i64 O2)).setCell ⟨w.heap.size + 1, 2, none⟩ (.int .i64 O3)).setCell ⟨w.heap.size + 1, 3, none⟩ (.int .i64 O4)).heap[w.heap.size]? = some (.cells #[.int .i64 s, .int .i64 n, .int .i64 d, .int .i64 r, .int .i64 l, .int .i64 b, .int .i64 g, .int .i64 k] 27)) := set_farP (set_farP (set_farP (set_farP HP9.out (by omega)) (by omega)) (by omega)) (by omega)
  have HOn : Hid (((((w9.setCell ⟨w.heap.size + 1, 0, none⟩ (.int .i64 O1)).setCell ⟨w.heap.size + 1, 1, none⟩ (.int .i64 O2)).setCell ⟨w.heap.size + 1, 2, none⟩ (.int .i64 O3)).setCell ⟨w.heap.size + 1, 3, none⟩ (.int .i64 O4)).heap[w.heap.size + 1]? = some (.cells #[.int .i64 O1, .int .i64 O2, .int .i64 O3, .int .i64 O4] 30)) := s4row O1 O2 O3 O4 HY9.out
  have HBn : Hid (Below w.heap.size w ((((w9.setCell ⟨w.heap.size + 1, 0, none⟩ (.int .i64 O1)).setCell ⟨w.heap.size + 1, 1, none⟩ (.int .i64 O2)).setCell ⟨w.heap.size + 1, 2, none⟩ (.int .i64 O3)).setCell ⟨w.heap.size + 1, 3, none⟩ (.int .i64 O4))) := (((HF.out.setCell (Nat.le_succ _) _).setCell (Nat.le_succ _) _).setCell (Nat.le_succ _) _).setCell (Nat.le_succ _) _
  obtain ⟨⟨z0, z1, z2, z3, z4, z5, z6, z7⟩, _⟩ := box8_cells HPn.out
  obtain ⟨⟨y0, y1, y2, y3⟩, _⟩ := box4_cells HOn.out
  generalize ((((w9.setCell ⟨w.heap.size + 1, 0, none⟩ (.int .i64 O1)).setCell ⟨w.heap.size + 1, 1, none⟩ (.int .i64 O2)).setCell ⟨w.heap.size + 1, 2, none⟩ (.int .i64 O3)).setCell ⟨w.heap.size + 1, 3, none⟩ (.int .i64 O4)) = w10 at *
  refine bodyPost_ret (v := .tuple #[.agg #[.int .i64 s, .int .i64 n, .int .i64 d, .int .i64 r, .int .i64 l, .int .i64 b, .int .i64 g, .int .i64 k], .agg #[.int .i64 O1, .int .i64 O2, .int .i64 O3, .int .i64 O4]]) (by simp only [results, Try.results15]; simp [go_sem, z0, z1, z2, z3, z4, z5, z6, z7, y0, y1, y2, y3]) rfl ⟨⟨s, n, d, r, l, b, g, k⟩, O1, O2, O3, O4, rfl, HBn.out⟩
end Go.Proofs.Ytpjnmkijndmemaa.I
