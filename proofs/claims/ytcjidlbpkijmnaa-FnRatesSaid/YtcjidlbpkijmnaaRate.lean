/-
  Rates: a step of one, many steps.
-/
import Derived.Test.YtcjidlbpkijmnaaInts
namespace Go.Proofs.Ytcjidlbpkijmnaa
open Go.RowKit Go.PlainAid
set_option linter.unusedVariables false

/-- a rate, as a value -/
def rateV (n d r : Int) : Value := .agg #[.int .i64 n, .int .i64 d, .int .i64 r]


def rateOk (n d r : Int) : Bool := decide ((0 ≤ n ∧ n ≤ 1000000 ∧ 1 ≤ d ∧ d ≤ 1000000 ∧ 0 ≤ r ∧ r ≤ d - 1))

theorem holds25 (l m n : Int) (b : Bool) (hb : decide (l ≤ n ∧ n ≤ m) = b) (w : World) : Calls Try.prog 25 #[.agg #[.int .i64 l, .int .i64 m], .int .i64 n] w fun e w' => e = .returned (.bool b) ∧ Below w.heap.size w w' := by
  go_enter Try.func25, Try.ntmps25
  by_cases h1 : l ≤ n
  · by_cases h2 : n ≤ m
    · go_wp2
      go_ret
      exact ⟨by rw [← hb, decide_eq_true ⟨h1, h2⟩]; rfl, (Below.refl _ _).alloc (Nat.le_refl _) _⟩
    · go_wp2
      go_ret
      exact ⟨by rw [← hb, decide_eq_false (fun h => by omega)]; rfl, (Below.refl _ _).alloc (Nat.le_refl _) _⟩
  · go_wp2
    go_ret
    exact ⟨by rw [← hb, decide_eq_false (fun h => by omega)]; rfl, (Below.refl _ _).alloc (Nat.le_refl _) _⟩

theorem heap_new (w : World) (o : Obj) : (w.alloc o).heap[w.heap.size]? = some o := by
  show (w.heap.push _)[w.heap.size]? = _
  simp

/-- a row of three cells that was laid, behind what only grows -/
theorem row3_after {w W' : World} {k : Nat} {t : TypeId} {x y z : Value} (h : w.heap[k]? = some (.cells #[x, y, z] t)) (hb : Below w.heap.size w W') :
    W'.heap[k]? = some (.cells #[x, y, z] t) := by
  have hlt : k < w.heap.size := by
    rcases Nat.lt_or_ge k w.heap.size with h' | h'
    · exact h'
    · rw [Array.getElem?_eq_none h'] at h; cases h
  rw [hb.block k hlt]
  exact h

theorem row3_cells {w : World} {k : Nat} {t : TypeId} {x y z : Value} (h : w.heap[k]? = some (.cells #[x, y, z] t)) :
    w.cell? ⟨k, 0, none⟩ = some x ∧ w.cell? ⟨k, 1, none⟩ = some y ∧ w.cell? ⟨k, 2, none⟩ = some z ∧ w.frozen? ⟨k, 0, none⟩ = false ∧ w.frozen? ⟨k, 1, none⟩ = false ∧ w.frozen? ⟨k, 2, none⟩ = false := by
  refine ⟨?_, ?_, ?_, ?_, ?_, ?_⟩ <;> simp [World.cell?, World.frozen?, h]

theorem rate14 (n d r : Int) (w : World) : Calls Try.prog 15 #[rateV n d r] w fun e w' => e = .returned (.bool (rateOk n d r)) ∧ Below w.heap.size w w' := by
  unfold rateV
  have hb0 : Below w.heap.size w (w.alloc (.cells #[.int .i64 n, .int .i64 d, .int .i64 r] 30)) := (Below.refl _ _).alloc (Nat.le_refl _) _
  have hh : (w.alloc (.cells #[.int .i64 n, .int .i64 d, .int .i64 r] 30)).heap[w.heap.size]? = some (.cells #[.int .i64 n, .int .i64 d, .int .i64 r] 30) := heap_new _ _
  go_enter Try.func15, Try.ntmps15
  by_cases h1 : 0 ≤ n ∧ n ≤ 1000000
  · by_cases h2 : 1 ≤ d ∧ d ≤ 1000000
    · by_cases h3 : 0 ≤ r ∧ r ≤ d - 1
      · go_wp2_with fail
        refine (holds25 0 1000000 n true (decide_eq_true h1) _).mono ?_
        rintro e w1 ⟨rfl, hb1⟩
        have hh1 := row3_after hh hb1
        have c11 := row3_cells hh1
        have bel1 := hb0.trans (hb1.mono hb0.size)
        go_wp2_with fail
        refine (holds25 1 1000000 d true (decide_eq_true h2) _).mono ?_
        rintro e w2 ⟨rfl, hb2⟩
        have hh2 := row3_after hh1 hb2
        have c21 := row3_cells hh2
        have bel2 := bel1.trans (hb2.mono bel1.size)
        go_wp2_with fail
        refine (holds25 0 (d - 1) r true (decide_eq_true h3) _).mono ?_
        rintro e w3 ⟨rfl, hb3⟩
        have hh3 := row3_after hh2 hb3
        have c31 := row3_cells hh3
        have bel3 := bel2.trans (hb3.mono bel2.size)
        go_wp2
        go_ret
        exact ⟨by rw [show rateOk n d r = true from decide_eq_true (by omega)]; rfl, bel3⟩
      · go_wp2_with fail
        refine (holds25 0 1000000 n true (decide_eq_true h1) _).mono ?_
        rintro e w1 ⟨rfl, hb1⟩
        have hh1 := row3_after hh hb1
        have c11 := row3_cells hh1
        have bel1 := hb0.trans (hb1.mono hb0.size)
        go_wp2_with fail
        refine (holds25 1 1000000 d true (decide_eq_true h2) _).mono ?_
        rintro e w2 ⟨rfl, hb2⟩
        have hh2 := row3_after hh1 hb2
        have c21 := row3_cells hh2
        have bel2 := bel1.trans (hb2.mono bel1.size)
        go_wp2_with fail
        refine (holds25 0 (d - 1) r false (decide_eq_false h3) _).mono ?_
        rintro e w3 ⟨rfl, hb3⟩
        have hh3 := row3_after hh2 hb3
        have c31 := row3_cells hh3
        have bel3 := bel2.trans (hb3.mono bel2.size)
        go_wp2
        go_ret
        exact ⟨by rw [show rateOk n d r = false from decide_eq_false (by omega)]; rfl, bel3⟩
    · go_wp2_with fail
      refine (holds25 0 1000000 n true (decide_eq_true h1) _).mono ?_
      rintro e w1 ⟨rfl, hb1⟩
      have hh1 := row3_after hh hb1
      have c11 := row3_cells hh1
      have bel1 := hb0.trans (hb1.mono hb0.size)
      go_wp2_with fail
      refine (holds25 1 1000000 d false (decide_eq_false h2) _).mono ?_
      rintro e w2 ⟨rfl, hb2⟩
      have hh2 := row3_after hh1 hb2
      have c21 := row3_cells hh2
      have bel2 := bel1.trans (hb2.mono bel1.size)
      go_wp2
      go_ret
      exact ⟨by rw [show rateOk n d r = false from decide_eq_false (by omega)]; rfl, bel2⟩
  · go_wp2_with fail
    refine (holds25 0 1000000 n false (decide_eq_false h1) _).mono ?_
    rintro e w1 ⟨rfl, hb1⟩
    have hh1 := row3_after hh hb1
    have c11 := row3_cells hh1
    have bel1 := hb0.trans (hb1.mono hb0.size)
    go_wp2
    go_ret
    exact ⟨by rw [show rateOk n d r = false from decide_eq_false (by omega)]; rfl, bel1⟩

def stepR (n d r : Int) : Int := if (0 ≤ n ∧ n ≤ 1000000 ∧ 1 ≤ d ∧ d ≤ 1000000 ∧ 0 ≤ r ∧ r ≤ d - 1) then (r + n) % d else r

def stepO (n d r : Int) : Int := if (0 ≤ n ∧ n ≤ 1000000 ∧ 1 ≤ d ∧ d ≤ 1000000 ∧ 0 ≤ r ∧ r ≤ d - 1) then (r + n) / d else 0

/-- what a rate and a result laid side by side are behind a call that only grows -/
theorem two_rows {w w1 : World} {a b c x y z : Value} (hb1 : Below ((w.alloc (.cells #[a, b, c] 30)).alloc (.cells #[x, y, z] 30)).heap.size ((w.alloc (.cells #[a, b, c] 30)).alloc (.cells #[x, y, z] 30)) w1) :
    w1.heap[w.heap.size]? = some (.cells #[a, b, c] 30) ∧ w1.heap[w.heap.size + 1]? = some (.cells #[x, y, z] 30) ∧ Below w.heap.size w w1 := by
  have hb0 : Below w.heap.size w ((w.alloc (.cells #[a, b, c] 30)).alloc (.cells #[x, y, z] 30)) := ((Below.refl _ _).alloc (Nat.le_refl _) _).alloc (by simp) _
  refine ⟨row3_after ?_ hb1, row3_after ?_ hb1, hb0.trans (hb1.mono hb0.size)⟩
  · rw [Below.heap_alloc _ _ _ (by simp)]
    exact heap_new _ _
  · have := heap_new (w.alloc (.cells #[a, b, c] 30)) (.cells #[x, y, z] 30)
    simpa using this

theorem step16 (n d r : Int) (w : World) : Calls Try.prog 24 #[rateV n d r] w fun e w' => e = .returned (.tuple #[rateV n d (stepR n d r), .int .i64 (stepO n d r)]) ∧ Below w.heap.size w w' := by
  have hs := rate14 n d r
  by_cases hR : (0 ≤ n ∧ n ≤ 1000000 ∧ 1 ≤ d ∧ d ≤ 1000000 ∧ 0 ≤ r ∧ r ≤ d - 1)
  · rw [show stepR n d r = (r + n) % d from if_pos hR, show stepO n d r = (r + n) / d from if_pos hR]
    rw [show rateOk n d r = true from decide_eq_true hR] at hs
    obtain ⟨a1, a2, a3, a4, a5, a6⟩ := hR
    have dz : ¬ d = 0 := by omega
    unfold rateV at hs ⊢
    go_enter Try.func24, Try.ntmps24
    go_wp2_with fail
    refine (hs _).mono ?_
    rintro e w1 ⟨rfl, hb1⟩
    obtain ⟨g1, g2, bel⟩ := two_rows hb1
    have k1 := row3_cells g1
    have k2 := row3_cells g2
    clear hs hb1
    go_wp2
    go_region
    go_wp2
    refine bodyPost_ret (v := .tuple #[.agg #[.int .i64 n, .int .i64 d, .int .i64 ((r + n) % d)], .int .i64 ((r + n) / d)]) (by simp [results, Try.results24, go_sem, k2]) rfl ⟨rfl, ?_⟩
    refine Below.drew ?_
    exact (((bel.setCell (by simp) _).setCell (by simp) _).setCell (by simp) _).setCell (by simp) _
  · rw [show stepR n d r = r from if_neg hR, show stepO n d r = 0 from if_neg hR]
    rw [show rateOk n d r = false from decide_eq_false hR] at hs
    unfold rateV at hs ⊢
    go_enter Try.func24, Try.ntmps24
    go_wp2_with fail
    refine (hs _).mono ?_
    rintro e w1 ⟨rfl, hb1⟩
    obtain ⟨g1, g2, bel⟩ := two_rows hb1
    have k1 := row3_cells g1
    have k2 := row3_cells g2
    clear hs hb1
    go_wp2
    refine bodyPost_ret (v := .tuple #[.agg #[.int .i64 n, .int .i64 d, .int .i64 r], .int .i64 0]) (by simp [results, Try.results24, go_sem, k2]) rfl ⟨rfl, ?_⟩
    exact ((bel.setCell (by simp) _).setCell (by simp) _).setCell (by simp) _
def runR (n d r : Int) : Nat → Int
  | 0 => r
  | k + 1 => stepR n d (runR n d r k)

def runS (n d r : Int) : Nat → Int
  | 0 => 0
  | k + 1 => runS n d r k + stepO n d (runR n d r k)

/-- how many steps -/
def cnt (m : Int) : Nat := (min m 1000).toNat

theorem stepO_range (n d r : Int) : 0 ≤ stepO n d r ∧ stepO n d r ≤ 2000000 := by
  unfold stepO
  split
  · rename_i h
    obtain ⟨a1, a2, a3, a4, a5, a6⟩ := h
    have h1 : 0 ≤ (r + n) / d := Int.ediv_nonneg (by omega) (by omega)
    have h2 : (r + n) / d ≤ r + n := Int.ediv_le_self _ (by omega)
    omega
  · omega

theorem runS_range (n d r : Int) (k : Nat) : 0 ≤ runS n d r k ∧ runS n d r k ≤ 2000000 * (k : Int) := by
  induction k with
  | zero => exact ⟨Int.le_refl _, Int.le_refl _⟩
  | succ k ih =>
    have := stepO_range n d (runR n d r k)
    show 0 ≤ runS n d r k + stepO n d (runR n d r k) ∧ runS n d r k + stepO n d (runR n d r k) ≤ _
    omega

theorem set1_row {w : World} {k i : Nat} {cs : Array Value} {t : TypeId} {x : Value} (h : w.heap[k]? = some (.cells cs t)) : (w.setCell ⟨k, i, none⟩ x).heap[k]? = some (.cells (cs.setIfInBounds i x) t) := by
  simp [World.setCell, Array.getElem?_modify, h]

theorem set3_row {w : World} {k : Nat} {a b c x y z : Value} (h : w.heap[k]? = some (.cells #[a, b, c] 30)) :
    (((w.setCell ⟨k, 0, none⟩ x).setCell ⟨k, 1, none⟩ y).setCell ⟨k, 2, none⟩ z).heap[k]? = some (.cells #[x, y, z] 30) :=
  set1_row (set1_row (set1_row h))

theorem set3_other {w : World} {k j : Nat} {x y z : Value} (hj : j ≠ k) :
    (((w.setCell ⟨k, 0, none⟩ x).setCell ⟨k, 1, none⟩ y).setCell ⟨k, 2, none⟩ z).heap[j]? = w.heap[j]? := by
  rw [Below.heap_setCell _ _ _ _ hj, Below.heap_setCell _ _ _ _ hj, Below.heap_setCell _ _ _ _ hj]

/-- the two rows that are laid at the start -/
theorem two_start (w : World) (a b c x y z : Value) :
    ((w.alloc (.cells #[a, b, c] 30)).alloc (.cells #[x, y, z] 30)).heap[w.heap.size]? = some (.cells #[a, b, c] 30) ∧ ((w.alloc (.cells #[a, b, c] 30)).alloc (.cells #[x, y, z] 30)).heap[w.heap.size + 1]? = some (.cells #[x, y, z] 30) ∧ Below w.heap.size w ((w.alloc (.cells #[a, b, c] 30)).alloc (.cells #[x, y, z] 30)) :=
  two_rows (Below.refl _ _)

theorem row_lt {w : World} {k : Nat} {o : Obj} (h : w.heap[k]? = some o) : k < w.heap.size := by
  rcases Nat.lt_or_ge k w.heap.size with h' | h'
  · exact h'
  · rw [Array.getElem?_eq_none h'] at h; cases h

set_option maxHeartbeats 1000000 in
theorem run19 (n d r m : Int) (w : World) : Calls Try.prog 14 #[rateV n d r, .int .i64 m] w fun e w' => e = .returned (.tuple #[rateV n d (runR n d r (cnt m)), .int .i64 (runS n d r (cnt m))]) ∧ Below w.heap.size w w' := by
  have hs := fun x => step16 n d x
  have HC : Hid (cnt m = (min m 1000).toNat) := rfl
  obtain ⟨ha, hb, hw⟩ := two_start w (.int .i64 n) (.int .i64 d) (.int .i64 r) (.int .i64 0) (.int .i64 0) (.int .i64 0)
  have HA : Hid (_ = _) := ha
  have HB : Hid (_ = _) := hb
  have HW : Hid (Below _ _ _) := hw
  clear ha hb hw
  unfold rateV at hs ⊢
  go_enter Try.func14, Try.ntmps14
  by_cases hm : 1000 < m
  · have hC2 : cnt m = 1000 := by have := HC.out; omega
    clear HC
    have HC : Hid (cnt m = 1000) := hC2
    clear hC2
    go_wp2
    go_loopw [6, 10] (fun sv iv wr => ∃ k : Nat, (k : Int) ≤ 1000 ∧ iv = .int .i64 k ∧ sv = .int .i64 (runS n d r k) ∧ Hid (wr.heap[w.heap.size]? = some (.cells #[.int .i64 n, .int .i64 d, .int .i64 (runR n d r k)] 30)) ∧ Hid (wr.heap[w.heap.size + 1]? = some (.cells #[.int .i64 0, .int .i64 0, .int .i64 0] 30)) ∧ Hid (Below w.heap.size w wr)) (fun _ iv _ => 1000 - (intOf iv).toNat)
    case atStart => exact ⟨0, by simp, rfl, rfl, HA, HB, HW⟩
    case round =>
      clear HA HB HW
      obtain ⟨k, hk, rfl, rfl, HA, HB, HW⟩ := hrel
      have hsum := runS_range n d r k
      have hsum1 := runS_range n d r (k + 1)
      have hone := stepO_range n d (runR n d r k)
      have k1 := row3_cells HA.out
      have k2 := row3_cells HB.out
      by_cases hlt : (k : Int) < 1000
      · go_wp2_with fail
        refine (hs _ _).mono ?_
        rintro e w1 ⟨rfl, hb1⟩
        have HA1 : Hid (w1.heap[w.heap.size]? = _) := row3_after HA.out hb1
        have HB1 : Hid (w1.heap[w.heap.size + 1]? = _) := row3_after HB.out hb1
        have HW1 : Hid (Below w.heap.size w w1) := HW.out.trans (hb1.mono HW.out.size)
        clear HA HB HW hb1 k1 k2
        have k1 := row3_cells HA1.out
        go_wp2
        go_roundw
        case rel =>
          refine ⟨k + 1, by omega, by go_num, rfl, ?_, ?_, ?_⟩
          · exact set3_row HA1.out
          · exact (set3_other (by omega)).trans HB1.out
          · exact ((HW1.out.setCell (by simp) _).setCell (by simp) _).setCell (by simp) _
        case measure => simp [intOf]; omega
      · have HK : Hid (k = cnt m) := by have := HC.out; show _ = _; omega
        go_wp2
        refine bodyPost_ret (v := .tuple #[.agg #[.int .i64 n, .int .i64 d, .int .i64 (runR n d r k)], .int .i64 (runS n d r k)]) (by simp [results, Try.results14, go_sem, k2]) rfl ⟨by rw [HK.out], ?_⟩
        exact ((HW.out.setCell (by simp) _).setCell (by simp) _).setCell (by simp) _
  · have hC2 : cnt m = m.toNat := by have := HC.out; omega
    clear HC
    have HC : Hid (cnt m = m.toNat) := hC2
    clear hC2
    go_wp2
    go_loopw [6, 10] (fun sv iv wr => ∃ k : Nat, k ≤ m.toNat ∧ iv = .int .i64 k ∧ sv = .int .i64 (runS n d r k) ∧ Hid (wr.heap[w.heap.size]? = some (.cells #[.int .i64 n, .int .i64 d, .int .i64 (runR n d r k)] 30)) ∧ Hid (wr.heap[w.heap.size + 1]? = some (.cells #[.int .i64 0, .int .i64 0, .int .i64 0] 30)) ∧ Hid (Below w.heap.size w wr)) (fun _ iv _ => m.toNat - (intOf iv).toNat)
    case atStart => exact ⟨0, by simp, rfl, rfl, HA, HB, HW⟩
    case round =>
      clear HA HB HW
      obtain ⟨k, hk, rfl, rfl, HA, HB, HW⟩ := hrel
      have hsum := runS_range n d r k
      have hsum1 := runS_range n d r (k + 1)
      have hone := stepO_range n d (runR n d r k)
      have k1 := row3_cells HA.out
      have k2 := row3_cells HB.out
      by_cases hlt : (k : Int) < m
      · go_wp2_with fail
        refine (hs _ _).mono ?_
        rintro e w1 ⟨rfl, hb1⟩
        have HA1 : Hid (w1.heap[w.heap.size]? = _) := row3_after HA.out hb1
        have HB1 : Hid (w1.heap[w.heap.size + 1]? = _) := row3_after HB.out hb1
        have HW1 : Hid (Below w.heap.size w w1) := HW.out.trans (hb1.mono HW.out.size)
        clear HA HB HW hb1 k1 k2
        have k1 := row3_cells HA1.out
        go_wp2
        go_roundw
        case rel =>
          refine ⟨k + 1, by omega, by go_num, rfl, ?_, ?_, ?_⟩
          · exact set3_row HA1.out
          · exact (set3_other (by omega)).trans HB1.out
          · exact ((HW1.out.setCell (by simp) _).setCell (by simp) _).setCell (by simp) _
        case measure => simp [intOf]; omega
      · have HK : Hid (k = cnt m) := by have := HC.out; show _ = _; omega
        go_wp2
        refine bodyPost_ret (v := .tuple #[.agg #[.int .i64 n, .int .i64 d, .int .i64 (runR n d r k)], .int .i64 (runS n d r k)]) (by simp [results, Try.results14, go_sem, k2]) rfl ⟨by rw [HK.out], ?_⟩
        exact ((HW.out.setCell (by simp) _).setCell (by simp) _).setCell (by simp) _
end Go.Proofs.Ytcjidlbpkijmnaa
