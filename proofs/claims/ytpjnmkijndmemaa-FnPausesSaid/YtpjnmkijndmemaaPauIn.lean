/-
  FnPauses over bytes that are few enough.
-/
import Derived.Test.YtpjnmkijndmemaaBolIn
import Derived.Test.YtpjnmkijndmemaaDrawPq
import Derived.Test.YtpjnmkijndmemaaPauM
namespace Go.Proofs.Ytpjnmkijndmemaa
open Go.RowKit Go.PlainAid
set_option linter.unusedVariables false
set_option linter.unusedSimpArgs false

theorem cel8 {W W' : World} {A : Nat} {x0 x1 x2 x3 x4 x5 x6 x7 : Value} (hb : Below W.heap.size W W') (h : W.cell? ⟨A, 0, none⟩ = some (x0) ∧ W.cell? ⟨A, 1, none⟩ = some (x1) ∧ W.cell? ⟨A, 2, none⟩ = some (x2) ∧ W.cell? ⟨A, 3, none⟩ = some (x3) ∧ W.cell? ⟨A, 4, none⟩ = some (x4) ∧ W.cell? ⟨A, 5, none⟩ = some (x5) ∧ W.cell? ⟨A, 6, none⟩ = some (x6) ∧ W.cell? ⟨A, 7, none⟩ = some (x7)) : W'.cell? ⟨A, 0, none⟩ = some (x0) ∧ W'.cell? ⟨A, 1, none⟩ = some (x1) ∧ W'.cell? ⟨A, 2, none⟩ = some (x2) ∧ W'.cell? ⟨A, 3, none⟩ = some (x3) ∧ W'.cell? ⟨A, 4, none⟩ = some (x4) ∧ W'.cell? ⟨A, 5, none⟩ = some (x5) ∧ W'.cell? ⟨A, 6, none⟩ = some (x6) ∧ W'.cell? ⟨A, 7, none⟩ = some (x7) := by
  obtain ⟨h0, h1, h2, h3, h4, h5, h6, h7⟩ := h
  exact ⟨celP h0 hb, celP h1 hb, celP h2 hb, celP h3 hb, celP h4 hb, celP h5 hb, celP h6 hb, celP h7 hb⟩
theorem s3_on {W W' W0 : World} {A1 A2 A3 : Nat} {x0 x1 x2 x3 x4 x5 x6 x7 y0 y1 y2 y3 y4 y5 y6 y7 z0 z1 z2 z3 z4 z5 z6 z7 : Value} (hb : Below W.heap.size W W') (h : (W.cell? ⟨A1, 0, none⟩ = some (x0) ∧ W.cell? ⟨A1, 1, none⟩ = some (x1) ∧ W.cell? ⟨A1, 2, none⟩ = some (x2) ∧ W.cell? ⟨A1, 3, none⟩ = some (x3) ∧ W.cell? ⟨A1, 4, none⟩ = some (x4) ∧ W.cell? ⟨A1, 5, none⟩ = some (x5) ∧ W.cell? ⟨A1, 6, none⟩ = some (x6) ∧ W.cell? ⟨A1, 7, none⟩ = some (x7)) ∧ (W.cell? ⟨A2, 0, none⟩ = some (y0) ∧ W.cell? ⟨A2, 1, none⟩ = some (y1) ∧ W.cell? ⟨A2, 2, none⟩ = some (y2) ∧ W.cell? ⟨A2, 3, none⟩ = some (y3) ∧ W.cell? ⟨A2, 4, none⟩ = some (y4) ∧ W.cell? ⟨A2, 5, none⟩ = some (y5) ∧ W.cell? ⟨A2, 6, none⟩ = some (y6) ∧ W.cell? ⟨A2, 7, none⟩ = some (y7)) ∧ (W.cell? ⟨A3, 0, none⟩ = some (z0) ∧ W.cell? ⟨A3, 1, none⟩ = some (z1) ∧ W.cell? ⟨A3, 2, none⟩ = some (z2) ∧ W.cell? ⟨A3, 3, none⟩ = some (z3) ∧ W.cell? ⟨A3, 4, none⟩ = some (z4) ∧ W.cell? ⟨A3, 5, none⟩ = some (z5) ∧ W.cell? ⟨A3, 6, none⟩ = some (z6) ∧ W.cell? ⟨A3, 7, none⟩ = some (z7)) ∧ Below W0.heap.size W0 W) : (W'.cell? ⟨A1, 0, none⟩ = some (x0) ∧ W'.cell? ⟨A1, 1, none⟩ = some (x1) ∧ W'.cell? ⟨A1, 2, none⟩ = some (x2) ∧ W'.cell? ⟨A1, 3, none⟩ = some (x3) ∧ W'.cell? ⟨A1, 4, none⟩ = some (x4) ∧ W'.cell? ⟨A1, 5, none⟩ = some (x5) ∧ W'.cell? ⟨A1, 6, none⟩ = some (x6) ∧ W'.cell? ⟨A1, 7, none⟩ = some (x7)) ∧ (W'.cell? ⟨A2, 0, none⟩ = some (y0) ∧ W'.cell? ⟨A2, 1, none⟩ = some (y1) ∧ W'.cell? ⟨A2, 2, none⟩ = some (y2) ∧ W'.cell? ⟨A2, 3, none⟩ = some (y3) ∧ W'.cell? ⟨A2, 4, none⟩ = some (y4) ∧ W'.cell? ⟨A2, 5, none⟩ = some (y5) ∧ W'.cell? ⟨A2, 6, none⟩ = some (y6) ∧ W'.cell? ⟨A2, 7, none⟩ = some (y7)) ∧ (W'.cell? ⟨A3, 0, none⟩ = some (z0) ∧ W'.cell? ⟨A3, 1, none⟩ = some (z1) ∧ W'.cell? ⟨A3, 2, none⟩ = some (z2) ∧ W'.cell? ⟨A3, 3, none⟩ = some (z3) ∧ W'.cell? ⟨A3, 4, none⟩ = some (z4) ∧ W'.cell? ⟨A3, 5, none⟩ = some (z5) ∧ W'.cell? ⟨A3, 6, none⟩ = some (z6) ∧ W'.cell? ⟨A3, 7, none⟩ = some (z7)) ∧ Below W0.heap.size W0 W' :=
  ⟨cel8 hb h.1, cel8 hb h.2.1, cel8 hb h.2.2.1, bel_on (Nat.le_refl _) h.2.2.2 hb⟩
set_option maxRecDepth 100000 in
set_option maxHeartbeats 20000000 in
theorem pauses_in (a : Option Addr) (len cap : Nat) (hb : len ≤ 1048576) (w : World) (hcode : CodeOk w w.heap.size a len) :
    Calls Try.prog 7 #[.slice a len cap] w fun e w' => e = .returned (.bool true) ∧ Below w.heap.size w w' := by
  have HC : Hid (CodeOk w w.heap.size a len) := hcode
  clear hcode
  go_enter Try.func7, Try.ntmps7
  go_wp2_with fail
  refine (big5 a len cap (by omega) _).mono ?_
  rintro e w1 ⟨rfl, rfl⟩
  rw [decide_eq_false (by omega)]
  go_wp2_with fail
  refine (I.drawPmp a len cap _ HC.out).mono ?_
  rintro e w2 ⟨p, rfl, hp, hb2⟩
  obtain ⟨s, n, d, r, l, b, g, k⟩ := p
  have hs : s = 0 ∨ s = 1 ∨ s = 2 ∨ s = 3 := by have := hp.1; dsimp only at this; omega
  simp only [Pm.V]
  clear HC
  rcases hs with rfl | rfl | rfl | rfl
  · have _t := trivial
    have K1 : Hid (∀ w, Calls Try.prog 16 #[.agg #[.int .i64 0, .int .i64 n, .int .i64 d, .int .i64 r, .int .i64 l, .int .i64 b, .int .i64 g, .int .i64 k], .agg #[.int .i64 3, .int .i64 0, .int .i64 0, .int .i64 0]] w fun e w' => e = .returned (.tuple #[.agg #[.int .i64 0, .int .i64 n, .int .i64 d, .int .i64 r, .int .i64 l, .int .i64 b, .int .i64 g, .int .i64 k], .bool false]) ∧ Below w.heap.size w w') := fun w => by
      have h := takeI ⟨0, n, d, r, l, b, g, k⟩ 3 0 0 0 w
      rw [pau_not hp (.inl rfl)] at h
      exact h
    have K2 : Hid (∀ w, Calls Try.prog 16 #[.agg #[.int .i64 0, .int .i64 n, .int .i64 d, .int .i64 r, .int .i64 l, .int .i64 b, .int .i64 g, .int .i64 k], .agg #[.int .i64 6, .int .i64 0, .int .i64 0, .int .i64 0]] w fun e w' => e = .returned (.tuple #[.agg #[.int .i64 0, .int .i64 n, .int .i64 d, .int .i64 r, .int .i64 0, .int .i64 0, .int .i64 g, .int .i64 0], .bool true]) ∧ Below w.heap.size w w') := fun w => by
      have h := takeI ⟨0, n, d, r, l, b, g, k⟩ 6 0 0 0 w
      rw [pau_stop hp] at h
      exact h
    have KW : Hid (∀ w, Calls Try.prog 22 #[.agg #[.int .i64 0, .int .i64 n, .int .i64 d, .int .i64 r, .int .i64 0, .int .i64 0, .int .i64 g, .int .i64 0]] w fun e w' => e = .returned (.int .i64 0) ∧ Below w.heap.size w w') := fun w => by
      have h := wantsI ⟨0, n, d, r, 0, 0, g, 0⟩ w
      rw [pau_wants0] at h
      exact h
    clear hp
    have HB1 : Hid (Below w1.heap.size w1 w1) := Below.refl _ _
    have HN2 : Hid ((w2.alloc (.cells #[.int .i64 0, .int .i64 0, .int .i64 0, .int .i64 0, .int .i64 0, .int .i64 0, .int .i64 0, .int .i64 0] 27)).heap[w2.heap.size]? = some (.cells #[.int .i64 0, .int .i64 0, .int .i64 0, .int .i64 0, .int .i64 0, .int .i64 0, .int .i64 0, .int .i64 0] 27)) := heap_new w2 _
    have HBa : Hid (Below w1.heap.size w1 (w2.alloc (.cells #[.int .i64 0, .int .i64 0, .int .i64 0, .int .i64 0, .int .i64 0, .int .i64 0, .int .i64 0, .int .i64 0] 27))) := bel_on (Nat.le_refl _) (bel_on (Nat.le_refl _) HB1.out hb2) (alP _ _)
    have hl2 : w1.heap.size ≤ w2.heap.size := Nat.le_trans HB1.out.size hb2.size
    clear hb2
    go_wp2_with (refine listStoreP rfl rfl _ _ _ rfl rfl w2.heap.size (0) (n) (d) (r) (l) (b) (g) (k) rfl rfl HN2.out ?_)
    intro w3 hr ho hs hB
    have HB3 : Hid (Below w1.heap.size w1 w3) := hB _ _ hl2 HBa.out
    obtain ⟨A, hA⟩ : ∃ A, w2.heap.size = A := ⟨_, rfl⟩
    rw [hA] at hr
    have HP3 : Hid (w3.heap[A]? = some (.cells #[.int .i64 0, .int .i64 n, .int .i64 d, .int .i64 r, .int .i64 l, .int .i64 b, .int .i64 g, .int .i64 k] 27)) := hr
    rw [hA]
    have q3 := box8_cells HP3.out
    clear hr ho hs hB hA HN2 HBa HB1 hl2
    go_wp2_with fail
    refine Calls.mono (K1.out _) ?_
    rintro e w4 ⟨rfl, hb4⟩
    have HN4 : Hid ((w4.alloc (.cells #[.int .i64 0, .int .i64 0, .int .i64 0, .int .i64 0, .int .i64 0, .int .i64 0, .int .i64 0, .int .i64 0] 27)).heap[w4.heap.size]? = some (.cells #[.int .i64 0, .int .i64 0, .int .i64 0, .int .i64 0, .int .i64 0, .int .i64 0, .int .i64 0, .int .i64 0] 27)) := heap_new w4 _
    have HBa : Hid (Below w1.heap.size w1 (w4.alloc (.cells #[.int .i64 0, .int .i64 0, .int .i64 0, .int .i64 0, .int .i64 0, .int .i64 0, .int .i64 0, .int .i64 0] 27))) := bel_on (Nat.le_refl _) (bel_on (Nat.le_refl _) HB3.out hb4) (alP _ _)
    have hl4 : w1.heap.size ≤ w4.heap.size := Nat.le_trans HB3.out.size hb4.size
    have HPa : Hid ((w4.alloc (.cells #[.int .i64 0, .int .i64 0, .int .i64 0, .int .i64 0, .int .i64 0, .int .i64 0, .int .i64 0, .int .i64 0] 27)).heap[A]? = some (.cells #[.int .i64 0, .int .i64 n, .int .i64 d, .int .i64 r, .int .i64 l, .int .i64 b, .int .i64 g, .int .i64 k] 27)) := row_on (row_on HP3.out hb4) (alP _ _)
    have lHP : A < w4.heap.size := Nat.lt_of_lt_of_le (row_lt HP3.out) hb4.size
    clear hb4
    go_wp2_with (refine listStoreP rfl rfl _ _ _ rfl rfl w4.heap.size (0) (n) (d) (r) (l) (b) (g) (k) rfl rfl HN4.out ?_)
    intro w5 hr ho hs hB
    have HB5 : Hid (Below w1.heap.size w1 w5) := hB _ _ hl4 HBa.out
    have HP5 : Hid (w5.heap[A]? = some (.cells #[.int .i64 0, .int .i64 n, .int .i64 d, .int .i64 r, .int .i64 l, .int .i64 b, .int .i64 g, .int .i64 k] 27)) := (ho _ (by omega)).trans HPa.out
    obtain ⟨A4, hA4⟩ : ∃ A4, w4.heap.size = A4 := ⟨_, rfl⟩
    rw [hA4] at hr
    have HA5 : Hid (w5.heap[A4]? = some (.cells #[.int .i64 0, .int .i64 n, .int .i64 d, .int .i64 r, .int .i64 l, .int .i64 b, .int .i64 g, .int .i64 k] 27)) := hr
    rw [hA4]
    have q5 := box8_cells HP5.out
    clear hr ho hs hB hA4 HN4 HBa HB3 HP3 HPa lHP hl4 q3 K1
    go_wp2_with fail
    refine Calls.mono (K2.out _) ?_
    rintro e w6 ⟨rfl, hb6⟩
    have HN6 : Hid ((w6.alloc (.cells #[.int .i64 0, .int .i64 0, .int .i64 0, .int .i64 0, .int .i64 0, .int .i64 0, .int .i64 0, .int .i64 0] 27)).heap[w6.heap.size]? = some (.cells #[.int .i64 0, .int .i64 0, .int .i64 0, .int .i64 0, .int .i64 0, .int .i64 0, .int .i64 0, .int .i64 0] 27)) := heap_new w6 _
    have HBa : Hid (Below w1.heap.size w1 (w6.alloc (.cells #[.int .i64 0, .int .i64 0, .int .i64 0, .int .i64 0, .int .i64 0, .int .i64 0, .int .i64 0, .int .i64 0] 27))) := bel_on (Nat.le_refl _) (bel_on (Nat.le_refl _) HB5.out hb6) (alP _ _)
    have hl6 : w1.heap.size ≤ w6.heap.size := Nat.le_trans HB5.out.size hb6.size
    have HPa : Hid ((w6.alloc (.cells #[.int .i64 0, .int .i64 0, .int .i64 0, .int .i64 0, .int .i64 0, .int .i64 0, .int .i64 0, .int .i64 0] 27)).heap[A]? = some (.cells #[.int .i64 0, .int .i64 n, .int .i64 d, .int .i64 r, .int .i64 l, .int .i64 b, .int .i64 g, .int .i64 k] 27)) := row_on (row_on HP5.out hb6) (alP _ _)
    have lHP : A < w6.heap.size := Nat.lt_of_lt_of_le (row_lt HP5.out) hb6.size
    have HAa : Hid ((w6.alloc (.cells #[.int .i64 0, .int .i64 0, .int .i64 0, .int .i64 0, .int .i64 0, .int .i64 0, .int .i64 0, .int .i64 0] 27)).heap[A4]? = some (.cells #[.int .i64 0, .int .i64 n, .int .i64 d, .int .i64 r, .int .i64 l, .int .i64 b, .int .i64 g, .int .i64 k] 27)) := row_on (row_on HA5.out hb6) (alP _ _)
    have lHA : A4 < w6.heap.size := Nat.lt_of_lt_of_le (row_lt HA5.out) hb6.size
    clear hb6
    go_wp2_with (refine listStoreP rfl rfl _ _ _ rfl rfl w6.heap.size (0) (n) (d) (r) (0) (0) (g) (0) rfl rfl HN6.out ?_)
    intro w7 hr ho hs hB
    have HB7 : Hid (Below w1.heap.size w1 w7) := hB _ _ hl6 HBa.out
    have HP7 : Hid (w7.heap[A]? = some (.cells #[.int .i64 0, .int .i64 n, .int .i64 d, .int .i64 r, .int .i64 l, .int .i64 b, .int .i64 g, .int .i64 k] 27)) := (ho _ (by omega)).trans HPa.out
    have HA7 : Hid (w7.heap[A4]? = some (.cells #[.int .i64 0, .int .i64 n, .int .i64 d, .int .i64 r, .int .i64 l, .int .i64 b, .int .i64 g, .int .i64 k] 27)) := (ho _ (by omega)).trans HAa.out
    obtain ⟨A7, hA7⟩ : ∃ A7, w6.heap.size = A7 := ⟨_, rfl⟩
    rw [hA7] at hr
    have HS7 : Hid (w7.heap[A7]? = some (.cells #[.int .i64 0, .int .i64 n, .int .i64 d, .int .i64 r, .int .i64 0, .int .i64 0, .int .i64 g, .int .i64 0] 27)) := hr
    rw [hA7]
    have q7 := box8_cells HP7.out
    have r7 := box8_cells HS7.out
    clear hr ho hs hB hA7 HN6 HBa HB5 HP5 HPa lHP HA5 HAa lHA hl6 q5 K2
    go_wp2_with fail
    refine Calls.mono (KW.out _) ?_
    rintro e w8 ⟨rfl, hb8⟩
    have HB8 : Hid (Below w1.heap.size w1 w8) := bel_on (Nat.le_refl _) HB7.out hb8
    have HP8 : Hid (w8.heap[A]? = some (.cells #[.int .i64 0, .int .i64 n, .int .i64 d, .int .i64 r, .int .i64 l, .int .i64 b, .int .i64 g, .int .i64 k] 27)) := row_on HP7.out hb8
    have HA8 : Hid (w8.heap[A4]? = some (.cells #[.int .i64 0, .int .i64 n, .int .i64 d, .int .i64 r, .int .i64 l, .int .i64 b, .int .i64 g, .int .i64 k] 27)) := row_on HA7.out hb8
    have q8 := box8_cells HP8.out
    have r8 := box8_cells HA8.out
    clear hb8 HB7 HP7 HA7 HS7 q7 r7 KW
    go_wp2
    go_ret
    exact ⟨by simp, HB8.out⟩
  · obtain rfl := run_k hp (.inl rfl)
    have K1 : Hid (∀ w, Calls Try.prog 16 #[.agg #[.int .i64 1, .int .i64 n, .int .i64 d, .int .i64 r, .int .i64 l, .int .i64 b, .int .i64 g, .int .i64 0], .agg #[.int .i64 3, .int .i64 0, .int .i64 0, .int .i64 0]] w fun e w' => e = .returned (.tuple #[.agg #[.int .i64 3, .int .i64 n, .int .i64 d, .int .i64 r, .int .i64 l, .int .i64 b, .int .i64 g, .int .i64 1], .bool true]) ∧ Below w.heap.size w w') := fun w => by
      have h := takeI ⟨1, n, d, r, l, b, g, 0⟩ 3 0 0 0 w
      rw [pau_run hp (.inl rfl)] at h
      exact h
    have K2 : Hid (∀ w, Calls Try.prog 16 #[.agg #[.int .i64 1, .int .i64 n, .int .i64 d, .int .i64 r, .int .i64 l, .int .i64 b, .int .i64 g, .int .i64 0], .agg #[.int .i64 6, .int .i64 0, .int .i64 0, .int .i64 0]] w fun e w' => e = .returned (.tuple #[.agg #[.int .i64 0, .int .i64 n, .int .i64 d, .int .i64 r, .int .i64 0, .int .i64 0, .int .i64 g, .int .i64 0], .bool true]) ∧ Below w.heap.size w w') := fun w => by
      have h := takeI ⟨1, n, d, r, l, b, g, 0⟩ 6 0 0 0 w
      rw [pau_stop hp] at h
      exact h
    have KW : Hid (∀ w, Calls Try.prog 22 #[.agg #[.int .i64 0, .int .i64 n, .int .i64 d, .int .i64 r, .int .i64 0, .int .i64 0, .int .i64 g, .int .i64 0]] w fun e w' => e = .returned (.int .i64 0) ∧ Below w.heap.size w w') := fun w => by
      have h := wantsI ⟨0, n, d, r, 0, 0, g, 0⟩ w
      rw [pau_wants0] at h
      exact h
    have K3 : Hid (∀ w, Calls Try.prog 16 #[.agg #[.int .i64 3, .int .i64 n, .int .i64 d, .int .i64 r, .int .i64 l, .int .i64 b, .int .i64 g, .int .i64 1], .agg #[.int .i64 4, .int .i64 0, .int .i64 0, .int .i64 0]] w fun e w' => e = .returned (.tuple #[.agg #[.int .i64 1, .int .i64 n, .int .i64 d, .int .i64 r, .int .i64 l, .int .i64 b, .int .i64 g, .int .i64 0], .bool true]) ∧ Below w.heap.size w w') := fun w => by
      have h := takeI ⟨3, n, d, r, l, b, g, 1⟩ 4 0 0 0 w
      rw [pau_back hp (.inl rfl)] at h
      exact h
    have K4 : Hid (∀ w, Calls Try.prog 16 #[.agg #[.int .i64 1, .int .i64 n, .int .i64 d, .int .i64 r, .int .i64 l, .int .i64 b, .int .i64 g, .int .i64 0], .agg #[.int .i64 4, .int .i64 0, .int .i64 0, .int .i64 0]] w fun e w' => e = .returned (.tuple #[.agg #[.int .i64 1, .int .i64 n, .int .i64 d, .int .i64 r, .int .i64 l, .int .i64 b, .int .i64 g, .int .i64 0], .bool false]) ∧ Below w.heap.size w w') := fun w => by
      have h := takeI ⟨1, n, d, r, l, b, g, 0⟩ 4 0 0 0 w
      rw [pau_no hp (.inl rfl)] at h
      exact h
    have KW3 : Hid (∀ w, Calls Try.prog 22 #[.agg #[.int .i64 3, .int .i64 n, .int .i64 d, .int .i64 r, .int .i64 l, .int .i64 b, .int .i64 g, .int .i64 1]] w fun e w' => e = .returned (.int .i64 0) ∧ Below w.heap.size w w') := fun w => by
      have h := wantsI ⟨3, n, d, r, l, b, g, 1⟩ w
      rw [pau_wants3] at h
      exact h
    have KG3 : Hid (∀ w, Calls Try.prog 19 #[.agg #[.int .i64 3, .int .i64 n, .int .i64 d, .int .i64 r, .int .i64 l, .int .i64 b, .int .i64 g, .int .i64 1], .int .i64 9] w fun e w' => e = .returned (.agg #[.int .i64 3, .int .i64 n, .int .i64 d, .int .i64 r, .int .i64 l, .int .i64 b, .int .i64 g, .int .i64 1]) ∧ Below w.heap.size w w') := fun w => by
      have h := giveI ⟨3, n, d, r, l, b, g, 1⟩ 9 w
      rw [pau_give3] at h
      exact h
    clear hp
    have HB1 : Hid (Below w1.heap.size w1 w1) := Below.refl _ _
    have HN2 : Hid ((w2.alloc (.cells #[.int .i64 0, .int .i64 0, .int .i64 0, .int .i64 0, .int .i64 0, .int .i64 0, .int .i64 0, .int .i64 0] 27)).heap[w2.heap.size]? = some (.cells #[.int .i64 0, .int .i64 0, .int .i64 0, .int .i64 0, .int .i64 0, .int .i64 0, .int .i64 0, .int .i64 0] 27)) := heap_new w2 _
    have HBa : Hid (Below w1.heap.size w1 (w2.alloc (.cells #[.int .i64 0, .int .i64 0, .int .i64 0, .int .i64 0, .int .i64 0, .int .i64 0, .int .i64 0, .int .i64 0] 27))) := bel_on (Nat.le_refl _) (bel_on (Nat.le_refl _) HB1.out hb2) (alP _ _)
    have hl2 : w1.heap.size ≤ w2.heap.size := Nat.le_trans HB1.out.size hb2.size
    clear hb2
    go_wp2_with (refine listStoreP rfl rfl _ _ _ rfl rfl w2.heap.size (1) (n) (d) (r) (l) (b) (g) (0) rfl rfl HN2.out ?_)
    intro w3 hr ho hs hB
    have HB3 : Hid (Below w1.heap.size w1 w3) := hB _ _ hl2 HBa.out
    obtain ⟨A, hA⟩ : ∃ A, w2.heap.size = A := ⟨_, rfl⟩
    rw [hA] at hr
    have HP3 : Hid (w3.heap[A]? = some (.cells #[.int .i64 1, .int .i64 n, .int .i64 d, .int .i64 r, .int .i64 l, .int .i64 b, .int .i64 g, .int .i64 0] 27)) := hr
    rw [hA]
    have q3 := box8_cells HP3.out
    clear hr ho hs hB hA HN2 HBa HB1 hl2
    go_wp2_with fail
    refine Calls.mono (K1.out _) ?_
    rintro e w4 ⟨rfl, hb4⟩
    have HN4 : Hid ((w4.alloc (.cells #[.int .i64 0, .int .i64 0, .int .i64 0, .int .i64 0, .int .i64 0, .int .i64 0, .int .i64 0, .int .i64 0] 27)).heap[w4.heap.size]? = some (.cells #[.int .i64 0, .int .i64 0, .int .i64 0, .int .i64 0, .int .i64 0, .int .i64 0, .int .i64 0, .int .i64 0] 27)) := heap_new w4 _
    have HBa : Hid (Below w1.heap.size w1 (w4.alloc (.cells #[.int .i64 0, .int .i64 0, .int .i64 0, .int .i64 0, .int .i64 0, .int .i64 0, .int .i64 0, .int .i64 0] 27))) := bel_on (Nat.le_refl _) (bel_on (Nat.le_refl _) HB3.out hb4) (alP _ _)
    have hl4 : w1.heap.size ≤ w4.heap.size := Nat.le_trans HB3.out.size hb4.size
    have HPa : Hid ((w4.alloc (.cells #[.int .i64 0, .int .i64 0, .int .i64 0, .int .i64 0, .int .i64 0, .int .i64 0, .int .i64 0, .int .i64 0] 27)).heap[A]? = some (.cells #[.int .i64 1, .int .i64 n, .int .i64 d, .int .i64 r, .int .i64 l, .int .i64 b, .int .i64 g, .int .i64 0] 27)) := row_on (row_on HP3.out hb4) (alP _ _)
    have lHP : A < w4.heap.size := Nat.lt_of_lt_of_le (row_lt HP3.out) hb4.size
    clear hb4
    go_wp2_with (refine listStoreP rfl rfl _ _ _ rfl rfl w4.heap.size (3) (n) (d) (r) (l) (b) (g) (1) rfl rfl HN4.out ?_)
    intro w5 hr ho hs hB
    have HB5 : Hid (Below w1.heap.size w1 w5) := hB _ _ hl4 HBa.out
    have HP5 : Hid (w5.heap[A]? = some (.cells #[.int .i64 1, .int .i64 n, .int .i64 d, .int .i64 r, .int .i64 l, .int .i64 b, .int .i64 g, .int .i64 0] 27)) := (ho _ (by omega)).trans HPa.out
    obtain ⟨A4, hA4⟩ : ∃ A4, w4.heap.size = A4 := ⟨_, rfl⟩
    rw [hA4] at hr
    have HA5 : Hid (w5.heap[A4]? = some (.cells #[.int .i64 3, .int .i64 n, .int .i64 d, .int .i64 r, .int .i64 l, .int .i64 b, .int .i64 g, .int .i64 1] 27)) := hr
    rw [hA4]
    have q5 := box8_cells HP5.out
    clear hr ho hs hB hA4 HN4 HBa HB3 HP3 HPa lHP hl4 q3 K1
    go_wp2_with fail
    refine Calls.mono (K2.out _) ?_
    rintro e w6 ⟨rfl, hb6⟩
    have HN6 : Hid ((w6.alloc (.cells #[.int .i64 0, .int .i64 0, .int .i64 0, .int .i64 0, .int .i64 0, .int .i64 0, .int .i64 0, .int .i64 0] 27)).heap[w6.heap.size]? = some (.cells #[.int .i64 0, .int .i64 0, .int .i64 0, .int .i64 0, .int .i64 0, .int .i64 0, .int .i64 0, .int .i64 0] 27)) := heap_new w6 _
    have HBa : Hid (Below w1.heap.size w1 (w6.alloc (.cells #[.int .i64 0, .int .i64 0, .int .i64 0, .int .i64 0, .int .i64 0, .int .i64 0, .int .i64 0, .int .i64 0] 27))) := bel_on (Nat.le_refl _) (bel_on (Nat.le_refl _) HB5.out hb6) (alP _ _)
    have hl6 : w1.heap.size ≤ w6.heap.size := Nat.le_trans HB5.out.size hb6.size
    have HPa : Hid ((w6.alloc (.cells #[.int .i64 0, .int .i64 0, .int .i64 0, .int .i64 0, .int .i64 0, .int .i64 0, .int .i64 0, .int .i64 0] 27)).heap[A]? = some (.cells #[.int .i64 1, .int .i64 n, .int .i64 d, .int .i64 r, .int .i64 l, .int .i64 b, .int .i64 g, .int .i64 0] 27)) := row_on (row_on HP5.out hb6) (alP _ _)
    have lHP : A < w6.heap.size := Nat.lt_of_lt_of_le (row_lt HP5.out) hb6.size
    have HAa : Hid ((w6.alloc (.cells #[.int .i64 0, .int .i64 0, .int .i64 0, .int .i64 0, .int .i64 0, .int .i64 0, .int .i64 0, .int .i64 0] 27)).heap[A4]? = some (.cells #[.int .i64 3, .int .i64 n, .int .i64 d, .int .i64 r, .int .i64 l, .int .i64 b, .int .i64 g, .int .i64 1] 27)) := row_on (row_on HA5.out hb6) (alP _ _)
    have lHA : A4 < w6.heap.size := Nat.lt_of_lt_of_le (row_lt HA5.out) hb6.size
    clear hb6
    go_wp2_with (refine listStoreP rfl rfl _ _ _ rfl rfl w6.heap.size (0) (n) (d) (r) (0) (0) (g) (0) rfl rfl HN6.out ?_)
    intro w7 hr ho hs hB
    have HB7 : Hid (Below w1.heap.size w1 w7) := hB _ _ hl6 HBa.out
    have HP7 : Hid (w7.heap[A]? = some (.cells #[.int .i64 1, .int .i64 n, .int .i64 d, .int .i64 r, .int .i64 l, .int .i64 b, .int .i64 g, .int .i64 0] 27)) := (ho _ (by omega)).trans HPa.out
    have HA7 : Hid (w7.heap[A4]? = some (.cells #[.int .i64 3, .int .i64 n, .int .i64 d, .int .i64 r, .int .i64 l, .int .i64 b, .int .i64 g, .int .i64 1] 27)) := (ho _ (by omega)).trans HAa.out
    obtain ⟨A7, hA7⟩ : ∃ A7, w6.heap.size = A7 := ⟨_, rfl⟩
    rw [hA7] at hr
    have HS7 : Hid (w7.heap[A7]? = some (.cells #[.int .i64 0, .int .i64 n, .int .i64 d, .int .i64 r, .int .i64 0, .int .i64 0, .int .i64 g, .int .i64 0] 27)) := hr
    rw [hA7]
    have q7 := box8_cells HP7.out
    have r7 := box8_cells HS7.out
    clear hr ho hs hB hA7 HN6 HBa HB5 HP5 HPa lHP HA5 HAa lHA hl6 q5 K2
    go_wp2_with fail
    refine Calls.mono (KW.out _) ?_
    rintro e w8 ⟨rfl, hb8⟩
    have HB8 : Hid (Below w1.heap.size w1 w8) := bel_on (Nat.le_refl _) HB7.out hb8
    have HP8 : Hid (w8.heap[A]? = some (.cells #[.int .i64 1, .int .i64 n, .int .i64 d, .int .i64 r, .int .i64 l, .int .i64 b, .int .i64 g, .int .i64 0] 27)) := row_on HP7.out hb8
    have HA8 : Hid (w8.heap[A4]? = some (.cells #[.int .i64 3, .int .i64 n, .int .i64 d, .int .i64 r, .int .i64 l, .int .i64 b, .int .i64 g, .int .i64 1] 27)) := row_on HA7.out hb8
    have q8 := box8_cells HP8.out
    have r8 := box8_cells HA8.out
    clear hb8 HB7 HP7 HA7 HS7 q7 r7 KW
    go_wp2_with fail
    refine Calls.mono (K3.out _) ?_
    rintro e w9 ⟨rfl, hb9⟩
    have HN9 : Hid ((w9.alloc (.cells #[.int .i64 0, .int .i64 0, .int .i64 0, .int .i64 0, .int .i64 0, .int .i64 0, .int .i64 0, .int .i64 0] 27)).heap[w9.heap.size]? = some (.cells #[.int .i64 0, .int .i64 0, .int .i64 0, .int .i64 0, .int .i64 0, .int .i64 0, .int .i64 0, .int .i64 0] 27)) := heap_new w9 _
    have HBa : Hid (Below w1.heap.size w1 (w9.alloc (.cells #[.int .i64 0, .int .i64 0, .int .i64 0, .int .i64 0, .int .i64 0, .int .i64 0, .int .i64 0, .int .i64 0] 27))) := bel_on (Nat.le_refl _) (bel_on (Nat.le_refl _) HB8.out hb9) (alP _ _)
    have hl9 : w1.heap.size ≤ w9.heap.size := Nat.le_trans HB8.out.size hb9.size
    have HPa : Hid ((w9.alloc (.cells #[.int .i64 0, .int .i64 0, .int .i64 0, .int .i64 0, .int .i64 0, .int .i64 0, .int .i64 0, .int .i64 0] 27)).heap[A]? = some (.cells #[.int .i64 1, .int .i64 n, .int .i64 d, .int .i64 r, .int .i64 l, .int .i64 b, .int .i64 g, .int .i64 0] 27)) := row_on (row_on HP8.out hb9) (alP _ _)
    have lHP : A < w9.heap.size := Nat.lt_of_lt_of_le (row_lt HP8.out) hb9.size
    have HAa : Hid ((w9.alloc (.cells #[.int .i64 0, .int .i64 0, .int .i64 0, .int .i64 0, .int .i64 0, .int .i64 0, .int .i64 0, .int .i64 0] 27)).heap[A4]? = some (.cells #[.int .i64 3, .int .i64 n, .int .i64 d, .int .i64 r, .int .i64 l, .int .i64 b, .int .i64 g, .int .i64 1] 27)) := row_on (row_on HA8.out hb9) (alP _ _)
    have lHA : A4 < w9.heap.size := Nat.lt_of_lt_of_le (row_lt HA8.out) hb9.size
    clear hb9
    go_wp2_with (refine listStoreP rfl rfl _ _ _ rfl rfl w9.heap.size (1) (n) (d) (r) (l) (b) (g) (0) rfl rfl HN9.out ?_)
    intro w10 hr ho hs hB
    have HB10 : Hid (Below w1.heap.size w1 w10) := hB _ _ hl9 HBa.out
    have HP10 : Hid (w10.heap[A]? = some (.cells #[.int .i64 1, .int .i64 n, .int .i64 d, .int .i64 r, .int .i64 l, .int .i64 b, .int .i64 g, .int .i64 0] 27)) := (ho _ (by omega)).trans HPa.out
    have HA10 : Hid (w10.heap[A4]? = some (.cells #[.int .i64 3, .int .i64 n, .int .i64 d, .int .i64 r, .int .i64 l, .int .i64 b, .int .i64 g, .int .i64 1] 27)) := (ho _ (by omega)).trans HAa.out
    obtain ⟨A9, hA9⟩ : ∃ A9, w9.heap.size = A9 := ⟨_, rfl⟩
    rw [hA9] at hr
    have HR10 : Hid (w10.heap[A9]? = some (.cells #[.int .i64 1, .int .i64 n, .int .i64 d, .int .i64 r, .int .i64 l, .int .i64 b, .int .i64 g, .int .i64 0] 27)) := hr
    rw [hA9]
    have q10 := box8_cells HP10.out
    clear hr ho hs hB hA9 HN9 HBa HB8 HP8 HPa lHP HA8 HAa lHA hl9 q8 r8 K3
    go_wp2_with fail
    refine Calls.mono (K4.out _) ?_
    rintro e w11 ⟨rfl, hb11⟩
    have HN11 : Hid ((w11.alloc (.cells #[.int .i64 0, .int .i64 0, .int .i64 0, .int .i64 0, .int .i64 0, .int .i64 0, .int .i64 0, .int .i64 0] 27)).heap[w11.heap.size]? = some (.cells #[.int .i64 0, .int .i64 0, .int .i64 0, .int .i64 0, .int .i64 0, .int .i64 0, .int .i64 0, .int .i64 0] 27)) := heap_new w11 _
    have HBa : Hid (Below w1.heap.size w1 (w11.alloc (.cells #[.int .i64 0, .int .i64 0, .int .i64 0, .int .i64 0, .int .i64 0, .int .i64 0, .int .i64 0, .int .i64 0] 27))) := bel_on (Nat.le_refl _) (bel_on (Nat.le_refl _) HB10.out hb11) (alP _ _)
    have hl11 : w1.heap.size ≤ w11.heap.size := Nat.le_trans HB10.out.size hb11.size
    have HPa : Hid ((w11.alloc (.cells #[.int .i64 0, .int .i64 0, .int .i64 0, .int .i64 0, .int .i64 0, .int .i64 0, .int .i64 0, .int .i64 0] 27)).heap[A]? = some (.cells #[.int .i64 1, .int .i64 n, .int .i64 d, .int .i64 r, .int .i64 l, .int .i64 b, .int .i64 g, .int .i64 0] 27)) := row_on (row_on HP10.out hb11) (alP _ _)
    have lHP : A < w11.heap.size := Nat.lt_of_lt_of_le (row_lt HP10.out) hb11.size
    have HAa : Hid ((w11.alloc (.cells #[.int .i64 0, .int .i64 0, .int .i64 0, .int .i64 0, .int .i64 0, .int .i64 0, .int .i64 0, .int .i64 0] 27)).heap[A4]? = some (.cells #[.int .i64 3, .int .i64 n, .int .i64 d, .int .i64 r, .int .i64 l, .int .i64 b, .int .i64 g, .int .i64 1] 27)) := row_on (row_on HA10.out hb11) (alP _ _)
    have lHA : A4 < w11.heap.size := Nat.lt_of_lt_of_le (row_lt HA10.out) hb11.size
    have HRa : Hid ((w11.alloc (.cells #[.int .i64 0, .int .i64 0, .int .i64 0, .int .i64 0, .int .i64 0, .int .i64 0, .int .i64 0, .int .i64 0] 27)).heap[A9]? = some (.cells #[.int .i64 1, .int .i64 n, .int .i64 d, .int .i64 r, .int .i64 l, .int .i64 b, .int .i64 g, .int .i64 0] 27)) := row_on (row_on HR10.out hb11) (alP _ _)
    have lHR : A9 < w11.heap.size := Nat.lt_of_lt_of_le (row_lt HR10.out) hb11.size
    clear hb11
    go_wp2_with (refine listStoreP rfl rfl _ _ _ rfl rfl w11.heap.size (1) (n) (d) (r) (l) (b) (g) (0) rfl rfl HN11.out ?_)
    intro w12 hr ho hs hB
    have HB12 : Hid (Below w1.heap.size w1 w12) := hB _ _ hl11 HBa.out
    have HP12 : Hid (w12.heap[A]? = some (.cells #[.int .i64 1, .int .i64 n, .int .i64 d, .int .i64 r, .int .i64 l, .int .i64 b, .int .i64 g, .int .i64 0] 27)) := (ho _ (by omega)).trans HPa.out
    have HA12 : Hid (w12.heap[A4]? = some (.cells #[.int .i64 3, .int .i64 n, .int .i64 d, .int .i64 r, .int .i64 l, .int .i64 b, .int .i64 g, .int .i64 1] 27)) := (ho _ (by omega)).trans HAa.out
    have HR12 : Hid (w12.heap[A9]? = some (.cells #[.int .i64 1, .int .i64 n, .int .i64 d, .int .i64 r, .int .i64 l, .int .i64 b, .int .i64 g, .int .i64 0] 27)) := (ho _ (by omega)).trans HRa.out
    clear hr ho hs hB HN11 HBa HB10 HP10 HPa lHP HA10 HAa lHA HR10 HRa lHR hl11 q10 K4
    have HS0 : Hid ((w12.cell? ⟨A, 0, none⟩ = some (.int .i64 1) ∧ w12.cell? ⟨A, 1, none⟩ = some (.int .i64 n) ∧ w12.cell? ⟨A, 2, none⟩ = some (.int .i64 d) ∧ w12.cell? ⟨A, 3, none⟩ = some (.int .i64 r) ∧ w12.cell? ⟨A, 4, none⟩ = some (.int .i64 l) ∧ w12.cell? ⟨A, 5, none⟩ = some (.int .i64 b) ∧ w12.cell? ⟨A, 6, none⟩ = some (.int .i64 g) ∧ w12.cell? ⟨A, 7, none⟩ = some (.int .i64 0)) ∧ (w12.cell? ⟨A4, 0, none⟩ = some (.int .i64 3) ∧ w12.cell? ⟨A4, 1, none⟩ = some (.int .i64 n) ∧ w12.cell? ⟨A4, 2, none⟩ = some (.int .i64 d) ∧ w12.cell? ⟨A4, 3, none⟩ = some (.int .i64 r) ∧ w12.cell? ⟨A4, 4, none⟩ = some (.int .i64 l) ∧ w12.cell? ⟨A4, 5, none⟩ = some (.int .i64 b) ∧ w12.cell? ⟨A4, 6, none⟩ = some (.int .i64 g) ∧ w12.cell? ⟨A4, 7, none⟩ = some (.int .i64 1)) ∧ (w12.cell? ⟨A9, 0, none⟩ = some (.int .i64 1) ∧ w12.cell? ⟨A9, 1, none⟩ = some (.int .i64 n) ∧ w12.cell? ⟨A9, 2, none⟩ = some (.int .i64 d) ∧ w12.cell? ⟨A9, 3, none⟩ = some (.int .i64 r) ∧ w12.cell? ⟨A9, 4, none⟩ = some (.int .i64 l) ∧ w12.cell? ⟨A9, 5, none⟩ = some (.int .i64 b) ∧ w12.cell? ⟨A9, 6, none⟩ = some (.int .i64 g) ∧ w12.cell? ⟨A9, 7, none⟩ = some (.int .i64 0)) ∧ Below w1.heap.size w1 w12) := ⟨(box8_cells HP12.out).1, (box8_cells HA12.out).1, (box8_cells HR12.out).1, HB12.out⟩
    clear HP12 HA12 HR12 HB12
    go_upto_region 15 with fail
    go_region_held3 (fun w' => (w'.cell? ⟨A, 0, none⟩ = some (.int .i64 1) ∧ w'.cell? ⟨A, 1, none⟩ = some (.int .i64 n) ∧ w'.cell? ⟨A, 2, none⟩ = some (.int .i64 d) ∧ w'.cell? ⟨A, 3, none⟩ = some (.int .i64 r) ∧ w'.cell? ⟨A, 4, none⟩ = some (.int .i64 l) ∧ w'.cell? ⟨A, 5, none⟩ = some (.int .i64 b) ∧ w'.cell? ⟨A, 6, none⟩ = some (.int .i64 g) ∧ w'.cell? ⟨A, 7, none⟩ = some (.int .i64 0)) ∧ (w'.cell? ⟨A4, 0, none⟩ = some (.int .i64 3) ∧ w'.cell? ⟨A4, 1, none⟩ = some (.int .i64 n) ∧ w'.cell? ⟨A4, 2, none⟩ = some (.int .i64 d) ∧ w'.cell? ⟨A4, 3, none⟩ = some (.int .i64 r) ∧ w'.cell? ⟨A4, 4, none⟩ = some (.int .i64 l) ∧ w'.cell? ⟨A4, 5, none⟩ = some (.int .i64 b) ∧ w'.cell? ⟨A4, 6, none⟩ = some (.int .i64 g) ∧ w'.cell? ⟨A4, 7, none⟩ = some (.int .i64 1)) ∧ (w'.cell? ⟨A9, 0, none⟩ = some (.int .i64 1) ∧ w'.cell? ⟨A9, 1, none⟩ = some (.int .i64 n) ∧ w'.cell? ⟨A9, 2, none⟩ = some (.int .i64 d) ∧ w'.cell? ⟨A9, 3, none⟩ = some (.int .i64 r) ∧ w'.cell? ⟨A9, 4, none⟩ = some (.int .i64 l) ∧ w'.cell? ⟨A9, 5, none⟩ = some (.int .i64 b) ∧ w'.cell? ⟨A9, 6, none⟩ = some (.int .i64 g) ∧ w'.cell? ⟨A9, 7, none⟩ = some (.int .i64 0)) ∧ Below w1.heap.size w1 w') (first | (refine s3_on hby ?_; (first | assumption | (refine s3_on hbx ?_; assumption))) | (refine s3_on hbx ?_; (first | assumption | (exact ⟨HS0.out.1, HS0.out.2.1, HS0.out.2.2.1, HS0.out.2.2.2.drew⟩))) | (exact ⟨HS0.out.1, HS0.out.2.1, HS0.out.2.2.1, HS0.out.2.2.2.drew⟩)) (first | (go_at_call 22; refine Calls.mono (KW3.out _) ?_; rintro e wx ⟨rfl, hbx⟩) | (go_at_call 19; refine Calls.mono (KG3.out _) ?_; rintro e wy ⟨rfl, hby⟩))
    rename_i HH
    go_wp2
    go_ret
    exact ⟨by simp, HH.2.2.2⟩
  · obtain rfl := run_k hp (.inr rfl)
    have K1 : Hid (∀ w, Calls Try.prog 16 #[.agg #[.int .i64 2, .int .i64 n, .int .i64 d, .int .i64 r, .int .i64 l, .int .i64 b, .int .i64 g, .int .i64 0], .agg #[.int .i64 3, .int .i64 0, .int .i64 0, .int .i64 0]] w fun e w' => e = .returned (.tuple #[.agg #[.int .i64 3, .int .i64 n, .int .i64 d, .int .i64 r, .int .i64 l, .int .i64 b, .int .i64 g, .int .i64 2], .bool true]) ∧ Below w.heap.size w w') := fun w => by
      have h := takeI ⟨2, n, d, r, l, b, g, 0⟩ 3 0 0 0 w
      rw [pau_run hp (.inr rfl)] at h
      exact h
    have K2 : Hid (∀ w, Calls Try.prog 16 #[.agg #[.int .i64 2, .int .i64 n, .int .i64 d, .int .i64 r, .int .i64 l, .int .i64 b, .int .i64 g, .int .i64 0], .agg #[.int .i64 6, .int .i64 0, .int .i64 0, .int .i64 0]] w fun e w' => e = .returned (.tuple #[.agg #[.int .i64 0, .int .i64 n, .int .i64 d, .int .i64 r, .int .i64 0, .int .i64 0, .int .i64 g, .int .i64 0], .bool true]) ∧ Below w.heap.size w w') := fun w => by
      have h := takeI ⟨2, n, d, r, l, b, g, 0⟩ 6 0 0 0 w
      rw [pau_stop hp] at h
      exact h
    have KW : Hid (∀ w, Calls Try.prog 22 #[.agg #[.int .i64 0, .int .i64 n, .int .i64 d, .int .i64 r, .int .i64 0, .int .i64 0, .int .i64 g, .int .i64 0]] w fun e w' => e = .returned (.int .i64 0) ∧ Below w.heap.size w w') := fun w => by
      have h := wantsI ⟨0, n, d, r, 0, 0, g, 0⟩ w
      rw [pau_wants0] at h
      exact h
    have K3 : Hid (∀ w, Calls Try.prog 16 #[.agg #[.int .i64 3, .int .i64 n, .int .i64 d, .int .i64 r, .int .i64 l, .int .i64 b, .int .i64 g, .int .i64 2], .agg #[.int .i64 4, .int .i64 0, .int .i64 0, .int .i64 0]] w fun e w' => e = .returned (.tuple #[.agg #[.int .i64 2, .int .i64 n, .int .i64 d, .int .i64 r, .int .i64 l, .int .i64 b, .int .i64 g, .int .i64 0], .bool true]) ∧ Below w.heap.size w w') := fun w => by
      have h := takeI ⟨3, n, d, r, l, b, g, 2⟩ 4 0 0 0 w
      rw [pau_back hp (.inr rfl)] at h
      exact h
    have K4 : Hid (∀ w, Calls Try.prog 16 #[.agg #[.int .i64 2, .int .i64 n, .int .i64 d, .int .i64 r, .int .i64 l, .int .i64 b, .int .i64 g, .int .i64 0], .agg #[.int .i64 4, .int .i64 0, .int .i64 0, .int .i64 0]] w fun e w' => e = .returned (.tuple #[.agg #[.int .i64 2, .int .i64 n, .int .i64 d, .int .i64 r, .int .i64 l, .int .i64 b, .int .i64 g, .int .i64 0], .bool false]) ∧ Below w.heap.size w w') := fun w => by
      have h := takeI ⟨2, n, d, r, l, b, g, 0⟩ 4 0 0 0 w
      rw [pau_no hp (.inr rfl)] at h
      exact h
    have KW3 : Hid (∀ w, Calls Try.prog 22 #[.agg #[.int .i64 3, .int .i64 n, .int .i64 d, .int .i64 r, .int .i64 l, .int .i64 b, .int .i64 g, .int .i64 2]] w fun e w' => e = .returned (.int .i64 0) ∧ Below w.heap.size w w') := fun w => by
      have h := wantsI ⟨3, n, d, r, l, b, g, 2⟩ w
      rw [pau_wants3] at h
      exact h
    have KG3 : Hid (∀ w, Calls Try.prog 19 #[.agg #[.int .i64 3, .int .i64 n, .int .i64 d, .int .i64 r, .int .i64 l, .int .i64 b, .int .i64 g, .int .i64 2], .int .i64 9] w fun e w' => e = .returned (.agg #[.int .i64 3, .int .i64 n, .int .i64 d, .int .i64 r, .int .i64 l, .int .i64 b, .int .i64 g, .int .i64 2]) ∧ Below w.heap.size w w') := fun w => by
      have h := giveI ⟨3, n, d, r, l, b, g, 2⟩ 9 w
      rw [pau_give3] at h
      exact h
    clear hp
    have HB1 : Hid (Below w1.heap.size w1 w1) := Below.refl _ _
    have HN2 : Hid ((w2.alloc (.cells #[.int .i64 0, .int .i64 0, .int .i64 0, .int .i64 0, .int .i64 0, .int .i64 0, .int .i64 0, .int .i64 0] 27)).heap[w2.heap.size]? = some (.cells #[.int .i64 0, .int .i64 0, .int .i64 0, .int .i64 0, .int .i64 0, .int .i64 0, .int .i64 0, .int .i64 0] 27)) := heap_new w2 _
    have HBa : Hid (Below w1.heap.size w1 (w2.alloc (.cells #[.int .i64 0, .int .i64 0, .int .i64 0, .int .i64 0, .int .i64 0, .int .i64 0, .int .i64 0, .int .i64 0] 27))) := bel_on (Nat.le_refl _) (bel_on (Nat.le_refl _) HB1.out hb2) (alP _ _)
    have hl2 : w1.heap.size ≤ w2.heap.size := Nat.le_trans HB1.out.size hb2.size
    clear hb2
    go_wp2_with (refine listStoreP rfl rfl _ _ _ rfl rfl w2.heap.size (2) (n) (d) (r) (l) (b) (g) (0) rfl rfl HN2.out ?_)
    intro w3 hr ho hs hB
    have HB3 : Hid (Below w1.heap.size w1 w3) := hB _ _ hl2 HBa.out
    obtain ⟨A, hA⟩ : ∃ A, w2.heap.size = A := ⟨_, rfl⟩
    rw [hA] at hr
    have HP3 : Hid (w3.heap[A]? = some (.cells #[.int .i64 2, .int .i64 n, .int .i64 d, .int .i64 r, .int .i64 l, .int .i64 b, .int .i64 g, .int .i64 0] 27)) := hr
    rw [hA]
    have q3 := box8_cells HP3.out
    clear hr ho hs hB hA HN2 HBa HB1 hl2
    go_wp2_with fail
    refine Calls.mono (K1.out _) ?_
    rintro e w4 ⟨rfl, hb4⟩
    have HN4 : Hid ((w4.alloc (.cells #[.int .i64 0, .int .i64 0, .int .i64 0, .int .i64 0, .int .i64 0, .int .i64 0, .int .i64 0, .int .i64 0] 27)).heap[w4.heap.size]? = some (.cells #[.int .i64 0, .int .i64 0, .int .i64 0, .int .i64 0, .int .i64 0, .int .i64 0, .int .i64 0, .int .i64 0] 27)) := heap_new w4 _
    have HBa : Hid (Below w1.heap.size w1 (w4.alloc (.cells #[.int .i64 0, .int .i64 0, .int .i64 0, .int .i64 0, .int .i64 0, .int .i64 0, .int .i64 0, .int .i64 0] 27))) := bel_on (Nat.le_refl _) (bel_on (Nat.le_refl _) HB3.out hb4) (alP _ _)
    have hl4 : w1.heap.size ≤ w4.heap.size := Nat.le_trans HB3.out.size hb4.size
    have HPa : Hid ((w4.alloc (.cells #[.int .i64 0, .int .i64 0, .int .i64 0, .int .i64 0, .int .i64 0, .int .i64 0, .int .i64 0, .int .i64 0] 27)).heap[A]? = some (.cells #[.int .i64 2, .int .i64 n, .int .i64 d, .int .i64 r, .int .i64 l, .int .i64 b, .int .i64 g, .int .i64 0] 27)) := row_on (row_on HP3.out hb4) (alP _ _)
    have lHP : A < w4.heap.size := Nat.lt_of_lt_of_le (row_lt HP3.out) hb4.size
    clear hb4
    go_wp2_with (refine listStoreP rfl rfl _ _ _ rfl rfl w4.heap.size (3) (n) (d) (r) (l) (b) (g) (2) rfl rfl HN4.out ?_)
    intro w5 hr ho hs hB
    have HB5 : Hid (Below w1.heap.size w1 w5) := hB _ _ hl4 HBa.out
    have HP5 : Hid (w5.heap[A]? = some (.cells #[.int .i64 2, .int .i64 n, .int .i64 d, .int .i64 r, .int .i64 l, .int .i64 b, .int .i64 g, .int .i64 0] 27)) := (ho _ (by omega)).trans HPa.out
    obtain ⟨A4, hA4⟩ : ∃ A4, w4.heap.size = A4 := ⟨_, rfl⟩
    rw [hA4] at hr
    have HA5 : Hid (w5.heap[A4]? = some (.cells #[.int .i64 3, .int .i64 n, .int .i64 d, .int .i64 r, .int .i64 l, .int .i64 b, .int .i64 g, .int .i64 2] 27)) := hr
    rw [hA4]
    have q5 := box8_cells HP5.out
    clear hr ho hs hB hA4 HN4 HBa HB3 HP3 HPa lHP hl4 q3 K1
    go_wp2_with fail
    refine Calls.mono (K2.out _) ?_
    rintro e w6 ⟨rfl, hb6⟩
    have HN6 : Hid ((w6.alloc (.cells #[.int .i64 0, .int .i64 0, .int .i64 0, .int .i64 0, .int .i64 0, .int .i64 0, .int .i64 0, .int .i64 0] 27)).heap[w6.heap.size]? = some (.cells #[.int .i64 0, .int .i64 0, .int .i64 0, .int .i64 0, .int .i64 0, .int .i64 0, .int .i64 0, .int .i64 0] 27)) := heap_new w6 _
    have HBa : Hid (Below w1.heap.size w1 (w6.alloc (.cells #[.int .i64 0, .int .i64 0, .int .i64 0, .int .i64 0, .int .i64 0, .int .i64 0, .int .i64 0, .int .i64 0] 27))) := bel_on (Nat.le_refl _) (bel_on (Nat.le_refl _) HB5.out hb6) (alP _ _)
    have hl6 : w1.heap.size ≤ w6.heap.size := Nat.le_trans HB5.out.size hb6.size
    have HPa : Hid ((w6.alloc (.cells #[.int .i64 0, .int .i64 0, .int .i64 0, .int .i64 0, .int .i64 0, .int .i64 0, .int .i64 0, .int .i64 0] 27)).heap[A]? = some (.cells #[.int .i64 2, .int .i64 n, .int .i64 d, .int .i64 r, .int .i64 l, .int .i64 b, .int .i64 g, .int .i64 0] 27)) := row_on (row_on HP5.out hb6) (alP _ _)
    have lHP : A < w6.heap.size := Nat.lt_of_lt_of_le (row_lt HP5.out) hb6.size
    have HAa : Hid ((w6.alloc (.cells #[.int .i64 0, .int .i64 0, .int .i64 0, .int .i64 0, .int .i64 0, .int .i64 0, .int .i64 0, .int .i64 0] 27)).heap[A4]? = some (.cells #[.int .i64 3, .int .i64 n, .int .i64 d, .int .i64 r, .int .i64 l, .int .i64 b, .int .i64 g, .int .i64 2] 27)) := row_on (row_on HA5.out hb6) (alP _ _)
    have lHA : A4 < w6.heap.size := Nat.lt_of_lt_of_le (row_lt HA5.out) hb6.size
    clear hb6
    go_wp2_with (refine listStoreP rfl rfl _ _ _ rfl rfl w6.heap.size (0) (n) (d) (r) (0) (0) (g) (0) rfl rfl HN6.out ?_)
    intro w7 hr ho hs hB
    have HB7 : Hid (Below w1.heap.size w1 w7) := hB _ _ hl6 HBa.out
    have HP7 : Hid (w7.heap[A]? = some (.cells #[.int .i64 2, .int .i64 n, .int .i64 d, .int .i64 r, .int .i64 l, .int .i64 b, .int .i64 g, .int .i64 0] 27)) := (ho _ (by omega)).trans HPa.out
    have HA7 : Hid (w7.heap[A4]? = some (.cells #[.int .i64 3, .int .i64 n, .int .i64 d, .int .i64 r, .int .i64 l, .int .i64 b, .int .i64 g, .int .i64 2] 27)) := (ho _ (by omega)).trans HAa.out
    obtain ⟨A7, hA7⟩ : ∃ A7, w6.heap.size = A7 := ⟨_, rfl⟩
    rw [hA7] at hr
    have HS7 : Hid (w7.heap[A7]? = some (.cells #[.int .i64 0, .int .i64 n, .int .i64 d, .int .i64 r, .int .i64 0, .int .i64 0, .int .i64 g, .int .i64 0] 27)) := hr
    rw [hA7]
    have q7 := box8_cells HP7.out
    have r7 := box8_cells HS7.out
    clear hr ho hs hB hA7 HN6 HBa HB5 HP5 HPa lHP HA5 HAa lHA hl6 q5 K2
    go_wp2_with fail
    refine Calls.mono (KW.out _) ?_
    rintro e w8 ⟨rfl, hb8⟩
    have HB8 : Hid (Below w1.heap.size w1 w8) := bel_on (Nat.le_refl _) HB7.out hb8
    have HP8 : Hid (w8.heap[A]? = some (.cells #[.int .i64 2, .int .i64 n, .int .i64 d, .int .i64 r, .int .i64 l, .int .i64 b, .int .i64 g, .int .i64 0] 27)) := row_on HP7.out hb8
    have HA8 : Hid (w8.heap[A4]? = some (.cells #[.int .i64 3, .int .i64 n, .int .i64 d, .int .i64 r, .int .i64 l, .int .i64 b, .int .i64 g, .int .i64 2] 27)) := row_on HA7.out hb8
    have q8 := box8_cells HP8.out
    have r8 := box8_cells HA8.out
    clear hb8 HB7 HP7 HA7 HS7 q7 r7 KW
    go_wp2_with fail
    refine Calls.mono (K3.out _) ?_
    rintro e w9 ⟨rfl, hb9⟩
    have HN9 : Hid ((w9.alloc (.cells #[.int .i64 0, .int .i64 0, .int .i64 0, .int .i64 0, .int .i64 0, .int .i64 0, .int .i64 0, .int .i64 0] 27)).heap[w9.heap.size]? = some (.cells #[.int .i64 0, .int .i64 0, .int .i64 0, .int .i64 0, .int .i64 0, .int .i64 0, .int .i64 0, .int .i64 0] 27)) := heap_new w9 _
    have HBa : Hid (Below w1.heap.size w1 (w9.alloc (.cells #[.int .i64 0, .int .i64 0, .int .i64 0, .int .i64 0, .int .i64 0, .int .i64 0, .int .i64 0, .int .i64 0] 27))) := bel_on (Nat.le_refl _) (bel_on (Nat.le_refl _) HB8.out hb9) (alP _ _)
    have hl9 : w1.heap.size ≤ w9.heap.size := Nat.le_trans HB8.out.size hb9.size
    have HPa : Hid ((w9.alloc (.cells #[.int .i64 0, .int .i64 0, .int .i64 0, .int .i64 0, .int .i64 0, .int .i64 0, .int .i64 0, .int .i64 0] 27)).heap[A]? = some (.cells #[.int .i64 2, .int .i64 n, .int .i64 d, .int .i64 r, .int .i64 l, .int .i64 b, .int .i64 g, .int .i64 0] 27)) := row_on (row_on HP8.out hb9) (alP _ _)
    have lHP : A < w9.heap.size := Nat.lt_of_lt_of_le (row_lt HP8.out) hb9.size
    have HAa : Hid ((w9.alloc (.cells #[.int .i64 0, .int .i64 0, .int .i64 0, .int .i64 0, .int .i64 0, .int .i64 0, .int .i64 0, .int .i64 0] 27)).heap[A4]? = some (.cells #[.int .i64 3, .int .i64 n, .int .i64 d, .int .i64 r, .int .i64 l, .int .i64 b, .int .i64 g, .int .i64 2] 27)) := row_on (row_on HA8.out hb9) (alP _ _)
    have lHA : A4 < w9.heap.size := Nat.lt_of_lt_of_le (row_lt HA8.out) hb9.size
    clear hb9
    go_wp2_with (refine listStoreP rfl rfl _ _ _ rfl rfl w9.heap.size (2) (n) (d) (r) (l) (b) (g) (0) rfl rfl HN9.out ?_)
    intro w10 hr ho hs hB
    have HB10 : Hid (Below w1.heap.size w1 w10) := hB _ _ hl9 HBa.out
    have HP10 : Hid (w10.heap[A]? = some (.cells #[.int .i64 2, .int .i64 n, .int .i64 d, .int .i64 r, .int .i64 l, .int .i64 b, .int .i64 g, .int .i64 0] 27)) := (ho _ (by omega)).trans HPa.out
    have HA10 : Hid (w10.heap[A4]? = some (.cells #[.int .i64 3, .int .i64 n, .int .i64 d, .int .i64 r, .int .i64 l, .int .i64 b, .int .i64 g, .int .i64 2] 27)) := (ho _ (by omega)).trans HAa.out
    obtain ⟨A9, hA9⟩ : ∃ A9, w9.heap.size = A9 := ⟨_, rfl⟩
    rw [hA9] at hr
    have HR10 : Hid (w10.heap[A9]? = some (.cells #[.int .i64 2, .int .i64 n, .int .i64 d, .int .i64 r, .int .i64 l, .int .i64 b, .int .i64 g, .int .i64 0] 27)) := hr
    rw [hA9]
    have q10 := box8_cells HP10.out
    clear hr ho hs hB hA9 HN9 HBa HB8 HP8 HPa lHP HA8 HAa lHA hl9 q8 r8 K3
    go_wp2_with fail
    refine Calls.mono (K4.out _) ?_
    rintro e w11 ⟨rfl, hb11⟩
    have HN11 : Hid ((w11.alloc (.cells #[.int .i64 0, .int .i64 0, .int .i64 0, .int .i64 0, .int .i64 0, .int .i64 0, .int .i64 0, .int .i64 0] 27)).heap[w11.heap.size]? = some (.cells #[.int .i64 0, .int .i64 0, .int .i64 0, .int .i64 0, .int .i64 0, .int .i64 0, .int .i64 0, .int .i64 0] 27)) := heap_new w11 _
    have HBa : Hid (Below w1.heap.size w1 (w11.alloc (.cells #[.int .i64 0, .int .i64 0, .int .i64 0, .int .i64 0, .int .i64 0, .int .i64 0, .int .i64 0, .int .i64 0] 27))) := bel_on (Nat.le_refl _) (bel_on (Nat.le_refl _) HB10.out hb11) (alP _ _)
    have hl11 : w1.heap.size ≤ w11.heap.size := Nat.le_trans HB10.out.size hb11.size
    have HPa : Hid ((w11.alloc (.cells #[.int .i64 0, .int .i64 0, .int .i64 0, .int .i64 0, .int .i64 0, .int .i64 0, .int .i64 0, .int .i64 0] 27)).heap[A]? = some (.cells #[.int .i64 2, .int .i64 n, .int .i64 d, .int .i64 r, .int .i64 l, .int .i64 b, .int .i64 g, .int .i64 0] 27)) := row_on (row_on HP10.out hb11) (alP _ _)
    have lHP : A < w11.heap.size := Nat.lt_of_lt_of_le (row_lt HP10.out) hb11.size
    have HAa : Hid ((w11.alloc (.cells #[.int .i64 0, .int .i64 0, .int .i64 0, .int .i64 0, .int .i64 0, .int .i64 0, .int .i64 0, .int .i64 0] 27)).heap[A4]? = some (.cells #[.int .i64 3, .int .i64 n, .int .i64 d, .int .i64 r, .int .i64 l, .int .i64 b, .int .i64 g, .int .i64 2] 27)) := row_on (row_on HA10.out hb11) (alP _ _)
    have lHA : A4 < w11.heap.size := Nat.lt_of_lt_of_le (row_lt HA10.out) hb11.size
    have HRa : Hid ((w11.alloc (.cells #[.int .i64 0, .int .i64 0, .int .i64 0, .int .i64 0, .int .i64 0, .int .i64 0, .int .i64 0, .int .i64 0] 27)).heap[A9]? = some (.cells #[.int .i64 2, .int .i64 n, .int .i64 d, .int .i64 r, .int .i64 l, .int .i64 b, .int .i64 g, .int .i64 0] 27)) := row_on (row_on HR10.out hb11) (alP _ _)
    have lHR : A9 < w11.heap.size := Nat.lt_of_lt_of_le (row_lt HR10.out) hb11.size
    clear hb11
    go_wp2_with (refine listStoreP rfl rfl _ _ _ rfl rfl w11.heap.size (2) (n) (d) (r) (l) (b) (g) (0) rfl rfl HN11.out ?_)
    intro w12 hr ho hs hB
    have HB12 : Hid (Below w1.heap.size w1 w12) := hB _ _ hl11 HBa.out
    have HP12 : Hid (w12.heap[A]? = some (.cells #[.int .i64 2, .int .i64 n, .int .i64 d, .int .i64 r, .int .i64 l, .int .i64 b, .int .i64 g, .int .i64 0] 27)) := (ho _ (by omega)).trans HPa.out
    have HA12 : Hid (w12.heap[A4]? = some (.cells #[.int .i64 3, .int .i64 n, .int .i64 d, .int .i64 r, .int .i64 l, .int .i64 b, .int .i64 g, .int .i64 2] 27)) := (ho _ (by omega)).trans HAa.out
    have HR12 : Hid (w12.heap[A9]? = some (.cells #[.int .i64 2, .int .i64 n, .int .i64 d, .int .i64 r, .int .i64 l, .int .i64 b, .int .i64 g, .int .i64 0] 27)) := (ho _ (by omega)).trans HRa.out
    clear hr ho hs hB HN11 HBa HB10 HP10 HPa lHP HA10 HAa lHA HR10 HRa lHR hl11 q10 K4
    have HS0 : Hid ((w12.cell? ⟨A, 0, none⟩ = some (.int .i64 2) ∧ w12.cell? ⟨A, 1, none⟩ = some (.int .i64 n) ∧ w12.cell? ⟨A, 2, none⟩ = some (.int .i64 d) ∧ w12.cell? ⟨A, 3, none⟩ = some (.int .i64 r) ∧ w12.cell? ⟨A, 4, none⟩ = some (.int .i64 l) ∧ w12.cell? ⟨A, 5, none⟩ = some (.int .i64 b) ∧ w12.cell? ⟨A, 6, none⟩ = some (.int .i64 g) ∧ w12.cell? ⟨A, 7, none⟩ = some (.int .i64 0)) ∧ (w12.cell? ⟨A4, 0, none⟩ = some (.int .i64 3) ∧ w12.cell? ⟨A4, 1, none⟩ = some (.int .i64 n) ∧ w12.cell? ⟨A4, 2, none⟩ = some (.int .i64 d) ∧ w12.cell? ⟨A4, 3, none⟩ = some (.int .i64 r) ∧ w12.cell? ⟨A4, 4, none⟩ = some (.int .i64 l) ∧ w12.cell? ⟨A4, 5, none⟩ = some (.int .i64 b) ∧ w12.cell? ⟨A4, 6, none⟩ = some (.int .i64 g) ∧ w12.cell? ⟨A4, 7, none⟩ = some (.int .i64 2)) ∧ (w12.cell? ⟨A9, 0, none⟩ = some (.int .i64 2) ∧ w12.cell? ⟨A9, 1, none⟩ = some (.int .i64 n) ∧ w12.cell? ⟨A9, 2, none⟩ = some (.int .i64 d) ∧ w12.cell? ⟨A9, 3, none⟩ = some (.int .i64 r) ∧ w12.cell? ⟨A9, 4, none⟩ = some (.int .i64 l) ∧ w12.cell? ⟨A9, 5, none⟩ = some (.int .i64 b) ∧ w12.cell? ⟨A9, 6, none⟩ = some (.int .i64 g) ∧ w12.cell? ⟨A9, 7, none⟩ = some (.int .i64 0)) ∧ Below w1.heap.size w1 w12) := ⟨(box8_cells HP12.out).1, (box8_cells HA12.out).1, (box8_cells HR12.out).1, HB12.out⟩
    clear HP12 HA12 HR12 HB12
    go_upto_region 15 with fail
    go_region_held3 (fun w' => (w'.cell? ⟨A, 0, none⟩ = some (.int .i64 2) ∧ w'.cell? ⟨A, 1, none⟩ = some (.int .i64 n) ∧ w'.cell? ⟨A, 2, none⟩ = some (.int .i64 d) ∧ w'.cell? ⟨A, 3, none⟩ = some (.int .i64 r) ∧ w'.cell? ⟨A, 4, none⟩ = some (.int .i64 l) ∧ w'.cell? ⟨A, 5, none⟩ = some (.int .i64 b) ∧ w'.cell? ⟨A, 6, none⟩ = some (.int .i64 g) ∧ w'.cell? ⟨A, 7, none⟩ = some (.int .i64 0)) ∧ (w'.cell? ⟨A4, 0, none⟩ = some (.int .i64 3) ∧ w'.cell? ⟨A4, 1, none⟩ = some (.int .i64 n) ∧ w'.cell? ⟨A4, 2, none⟩ = some (.int .i64 d) ∧ w'.cell? ⟨A4, 3, none⟩ = some (.int .i64 r) ∧ w'.cell? ⟨A4, 4, none⟩ = some (.int .i64 l) ∧ w'.cell? ⟨A4, 5, none⟩ = some (.int .i64 b) ∧ w'.cell? ⟨A4, 6, none⟩ = some (.int .i64 g) ∧ w'.cell? ⟨A4, 7, none⟩ = some (.int .i64 2)) ∧ (w'.cell? ⟨A9, 0, none⟩ = some (.int .i64 2) ∧ w'.cell? ⟨A9, 1, none⟩ = some (.int .i64 n) ∧ w'.cell? ⟨A9, 2, none⟩ = some (.int .i64 d) ∧ w'.cell? ⟨A9, 3, none⟩ = some (.int .i64 r) ∧ w'.cell? ⟨A9, 4, none⟩ = some (.int .i64 l) ∧ w'.cell? ⟨A9, 5, none⟩ = some (.int .i64 b) ∧ w'.cell? ⟨A9, 6, none⟩ = some (.int .i64 g) ∧ w'.cell? ⟨A9, 7, none⟩ = some (.int .i64 0)) ∧ Below w1.heap.size w1 w') (first | (refine s3_on hby ?_; (first | assumption | (refine s3_on hbx ?_; assumption))) | (refine s3_on hbx ?_; (first | assumption | (exact ⟨HS0.out.1, HS0.out.2.1, HS0.out.2.2.1, HS0.out.2.2.2.drew⟩))) | (exact ⟨HS0.out.1, HS0.out.2.1, HS0.out.2.2.1, HS0.out.2.2.2.drew⟩)) (first | (go_at_call 22; refine Calls.mono (KW3.out _) ?_; rintro e wx ⟨rfl, hbx⟩) | (go_at_call 19; refine Calls.mono (KG3.out _) ?_; rintro e wy ⟨rfl, hby⟩))
    rename_i HH
    go_wp2
    go_ret
    exact ⟨by simp, HH.2.2.2⟩
  · have _t := trivial
    have K1 : Hid (∀ w, Calls Try.prog 16 #[.agg #[.int .i64 3, .int .i64 n, .int .i64 d, .int .i64 r, .int .i64 l, .int .i64 b, .int .i64 g, .int .i64 k], .agg #[.int .i64 3, .int .i64 0, .int .i64 0, .int .i64 0]] w fun e w' => e = .returned (.tuple #[.agg #[.int .i64 3, .int .i64 n, .int .i64 d, .int .i64 r, .int .i64 l, .int .i64 b, .int .i64 g, .int .i64 k], .bool false]) ∧ Below w.heap.size w w') := fun w => by
      have h := takeI ⟨3, n, d, r, l, b, g, k⟩ 3 0 0 0 w
      rw [pau_not hp (.inr rfl)] at h
      exact h
    have K2 : Hid (∀ w, Calls Try.prog 16 #[.agg #[.int .i64 3, .int .i64 n, .int .i64 d, .int .i64 r, .int .i64 l, .int .i64 b, .int .i64 g, .int .i64 k], .agg #[.int .i64 6, .int .i64 0, .int .i64 0, .int .i64 0]] w fun e w' => e = .returned (.tuple #[.agg #[.int .i64 0, .int .i64 n, .int .i64 d, .int .i64 r, .int .i64 0, .int .i64 0, .int .i64 g, .int .i64 0], .bool true]) ∧ Below w.heap.size w w') := fun w => by
      have h := takeI ⟨3, n, d, r, l, b, g, k⟩ 6 0 0 0 w
      rw [pau_stop hp] at h
      exact h
    have KW : Hid (∀ w, Calls Try.prog 22 #[.agg #[.int .i64 0, .int .i64 n, .int .i64 d, .int .i64 r, .int .i64 0, .int .i64 0, .int .i64 g, .int .i64 0]] w fun e w' => e = .returned (.int .i64 0) ∧ Below w.heap.size w w') := fun w => by
      have h := wantsI ⟨0, n, d, r, 0, 0, g, 0⟩ w
      rw [pau_wants0] at h
      exact h
    clear hp
    have HB1 : Hid (Below w1.heap.size w1 w1) := Below.refl _ _
    have HN2 : Hid ((w2.alloc (.cells #[.int .i64 0, .int .i64 0, .int .i64 0, .int .i64 0, .int .i64 0, .int .i64 0, .int .i64 0, .int .i64 0] 27)).heap[w2.heap.size]? = some (.cells #[.int .i64 0, .int .i64 0, .int .i64 0, .int .i64 0, .int .i64 0, .int .i64 0, .int .i64 0, .int .i64 0] 27)) := heap_new w2 _
    have HBa : Hid (Below w1.heap.size w1 (w2.alloc (.cells #[.int .i64 0, .int .i64 0, .int .i64 0, .int .i64 0, .int .i64 0, .int .i64 0, .int .i64 0, .int .i64 0] 27))) := bel_on (Nat.le_refl _) (bel_on (Nat.le_refl _) HB1.out hb2) (alP _ _)
    have hl2 : w1.heap.size ≤ w2.heap.size := Nat.le_trans HB1.out.size hb2.size
    clear hb2
    go_wp2_with (refine listStoreP rfl rfl _ _ _ rfl rfl w2.heap.size (3) (n) (d) (r) (l) (b) (g) (k) rfl rfl HN2.out ?_)
    intro w3 hr ho hs hB
    have HB3 : Hid (Below w1.heap.size w1 w3) := hB _ _ hl2 HBa.out
    obtain ⟨A, hA⟩ : ∃ A, w2.heap.size = A := ⟨_, rfl⟩
    rw [hA] at hr
    have HP3 : Hid (w3.heap[A]? = some (.cells #[.int .i64 3, .int .i64 n, .int .i64 d, .int .i64 r, .int .i64 l, .int .i64 b, .int .i64 g, .int .i64 k] 27)) := hr
    rw [hA]
    have q3 := box8_cells HP3.out
    clear hr ho hs hB hA HN2 HBa HB1 hl2
    go_wp2_with fail
    refine Calls.mono (K1.out _) ?_
    rintro e w4 ⟨rfl, hb4⟩
    have HN4 : Hid ((w4.alloc (.cells #[.int .i64 0, .int .i64 0, .int .i64 0, .int .i64 0, .int .i64 0, .int .i64 0, .int .i64 0, .int .i64 0] 27)).heap[w4.heap.size]? = some (.cells #[.int .i64 0, .int .i64 0, .int .i64 0, .int .i64 0, .int .i64 0, .int .i64 0, .int .i64 0, .int .i64 0] 27)) := heap_new w4 _
    have HBa : Hid (Below w1.heap.size w1 (w4.alloc (.cells #[.int .i64 0, .int .i64 0, .int .i64 0, .int .i64 0, .int .i64 0, .int .i64 0, .int .i64 0, .int .i64 0] 27))) := bel_on (Nat.le_refl _) (bel_on (Nat.le_refl _) HB3.out hb4) (alP _ _)
    have hl4 : w1.heap.size ≤ w4.heap.size := Nat.le_trans HB3.out.size hb4.size
    have HPa : Hid ((w4.alloc (.cells #[.int .i64 0, .int .i64 0, .int .i64 0, .int .i64 0, .int .i64 0, .int .i64 0, .int .i64 0, .int .i64 0] 27)).heap[A]? = some (.cells #[.int .i64 3, .int .i64 n, .int .i64 d, .int .i64 r, .int .i64 l, .int .i64 b, .int .i64 g, .int .i64 k] 27)) := row_on (row_on HP3.out hb4) (alP _ _)
    have lHP : A < w4.heap.size := Nat.lt_of_lt_of_le (row_lt HP3.out) hb4.size
    clear hb4
    go_wp2_with (refine listStoreP rfl rfl _ _ _ rfl rfl w4.heap.size (3) (n) (d) (r) (l) (b) (g) (k) rfl rfl HN4.out ?_)
    intro w5 hr ho hs hB
    have HB5 : Hid (Below w1.heap.size w1 w5) := hB _ _ hl4 HBa.out
    have HP5 : Hid (w5.heap[A]? = some (.cells #[.int .i64 3, .int .i64 n, .int .i64 d, .int .i64 r, .int .i64 l, .int .i64 b, .int .i64 g, .int .i64 k] 27)) := (ho _ (by omega)).trans HPa.out
    obtain ⟨A4, hA4⟩ : ∃ A4, w4.heap.size = A4 := ⟨_, rfl⟩
    rw [hA4] at hr
    have HA5 : Hid (w5.heap[A4]? = some (.cells #[.int .i64 3, .int .i64 n, .int .i64 d, .int .i64 r, .int .i64 l, .int .i64 b, .int .i64 g, .int .i64 k] 27)) := hr
    rw [hA4]
    have q5 := box8_cells HP5.out
    clear hr ho hs hB hA4 HN4 HBa HB3 HP3 HPa lHP hl4 q3 K1
    go_wp2_with fail
    refine Calls.mono (K2.out _) ?_
    rintro e w6 ⟨rfl, hb6⟩
    have HN6 : Hid ((w6.alloc (.cells #[.int .i64 0, .int .i64 0, .int .i64 0, .int .i64 0, .int .i64 0, .int .i64 0, .int .i64 0, .int .i64 0] 27)).heap[w6.heap.size]? = some (.cells #[.int .i64 0, .int .i64 0, .int .i64 0, .int .i64 0, .int .i64 0, .int .i64 0, .int .i64 0, .int .i64 0] 27)) := heap_new w6 _
    have HBa : Hid (Below w1.heap.size w1 (w6.alloc (.cells #[.int .i64 0, .int .i64 0, .int .i64 0, .int .i64 0, .int .i64 0, .int .i64 0, .int .i64 0, .int .i64 0] 27))) := bel_on (Nat.le_refl _) (bel_on (Nat.le_refl _) HB5.out hb6) (alP _ _)
    have hl6 : w1.heap.size ≤ w6.heap.size := Nat.le_trans HB5.out.size hb6.size
    have HPa : Hid ((w6.alloc (.cells #[.int .i64 0, .int .i64 0, .int .i64 0, .int .i64 0, .int .i64 0, .int .i64 0, .int .i64 0, .int .i64 0] 27)).heap[A]? = some (.cells #[.int .i64 3, .int .i64 n, .int .i64 d, .int .i64 r, .int .i64 l, .int .i64 b, .int .i64 g, .int .i64 k] 27)) := row_on (row_on HP5.out hb6) (alP _ _)
    have lHP : A < w6.heap.size := Nat.lt_of_lt_of_le (row_lt HP5.out) hb6.size
    have HAa : Hid ((w6.alloc (.cells #[.int .i64 0, .int .i64 0, .int .i64 0, .int .i64 0, .int .i64 0, .int .i64 0, .int .i64 0, .int .i64 0] 27)).heap[A4]? = some (.cells #[.int .i64 3, .int .i64 n, .int .i64 d, .int .i64 r, .int .i64 l, .int .i64 b, .int .i64 g, .int .i64 k] 27)) := row_on (row_on HA5.out hb6) (alP _ _)
    have lHA : A4 < w6.heap.size := Nat.lt_of_lt_of_le (row_lt HA5.out) hb6.size
    clear hb6
    go_wp2_with (refine listStoreP rfl rfl _ _ _ rfl rfl w6.heap.size (0) (n) (d) (r) (0) (0) (g) (0) rfl rfl HN6.out ?_)
    intro w7 hr ho hs hB
    have HB7 : Hid (Below w1.heap.size w1 w7) := hB _ _ hl6 HBa.out
    have HP7 : Hid (w7.heap[A]? = some (.cells #[.int .i64 3, .int .i64 n, .int .i64 d, .int .i64 r, .int .i64 l, .int .i64 b, .int .i64 g, .int .i64 k] 27)) := (ho _ (by omega)).trans HPa.out
    have HA7 : Hid (w7.heap[A4]? = some (.cells #[.int .i64 3, .int .i64 n, .int .i64 d, .int .i64 r, .int .i64 l, .int .i64 b, .int .i64 g, .int .i64 k] 27)) := (ho _ (by omega)).trans HAa.out
    obtain ⟨A7, hA7⟩ : ∃ A7, w6.heap.size = A7 := ⟨_, rfl⟩
    rw [hA7] at hr
    have HS7 : Hid (w7.heap[A7]? = some (.cells #[.int .i64 0, .int .i64 n, .int .i64 d, .int .i64 r, .int .i64 0, .int .i64 0, .int .i64 g, .int .i64 0] 27)) := hr
    rw [hA7]
    have q7 := box8_cells HP7.out
    have r7 := box8_cells HS7.out
    clear hr ho hs hB hA7 HN6 HBa HB5 HP5 HPa lHP HA5 HAa lHA hl6 q5 K2
    go_wp2_with fail
    refine Calls.mono (KW.out _) ?_
    rintro e w8 ⟨rfl, hb8⟩
    have HB8 : Hid (Below w1.heap.size w1 w8) := bel_on (Nat.le_refl _) HB7.out hb8
    have HP8 : Hid (w8.heap[A]? = some (.cells #[.int .i64 3, .int .i64 n, .int .i64 d, .int .i64 r, .int .i64 l, .int .i64 b, .int .i64 g, .int .i64 k] 27)) := row_on HP7.out hb8
    have HA8 : Hid (w8.heap[A4]? = some (.cells #[.int .i64 3, .int .i64 n, .int .i64 d, .int .i64 r, .int .i64 l, .int .i64 b, .int .i64 g, .int .i64 k] 27)) := row_on HA7.out hb8
    have q8 := box8_cells HP8.out
    have r8 := box8_cells HA8.out
    clear hb8 HB7 HP7 HA7 HS7 q7 r7 KW
    go_wp2
    go_ret
    exact ⟨by simp, HB8.out⟩
end Go.Proofs.Ytpjnmkijndmemaa
