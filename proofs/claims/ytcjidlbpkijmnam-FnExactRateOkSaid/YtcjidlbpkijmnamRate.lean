/-
  Rates: whether one is right, and a step of one; the contracts of the program's and of the specification's.
-/
import Derived.Test.YtcjidlbpkijmnamMul
namespace Go.Proofs.Ytcjidlbpkijmnam
open Go.RowKit Go.PlainAid
set_option linter.unusedVariables false

/-- a rate, as a value -/
def rateV (n d r : Int) : Value := .agg #[.int .i64 n, .int .i64 d, .int .i64 r]
def rateOk (n d r : Int) : Bool := decide ((0 ≤ n ∧ n ≤ 1000000 ∧ 1 ≤ d ∧ d ≤ 1000000 ∧ 0 ≤ r ∧ r ≤ d - 1))

theorem holds25 (l m n : Int) (b : Bool) (hb : decide (l ≤ n ∧ n ≤ m) = b) (w : World) : Calls Try.prog 25 #[.agg #[.int .i64 l, .int .i64 m], .int .i64 n] w fun e w' => e = .returned (.bool b) ∧ Below w.heap.size w w' := by
  go_enter Try.func25, Try.ntmps25
  by_cases h1 : l ≤ n
  · by_cases h2 : n ≤ m
    · go_wp2
      go_ret
      exact ⟨by rw [← hb, decide_eq_true ⟨h1, h2⟩]; rfl, (Below.refl _ _).alloc (Nat.le_refl _) _⟩
    · go_wp2
      go_ret
      exact ⟨by rw [← hb, decide_eq_false (fun h => by omega)]; rfl, (Below.refl _ _).alloc (Nat.le_refl _) _⟩
  · go_wp2
    go_ret
    exact ⟨by rw [← hb, decide_eq_false (fun h => by omega)]; rfl, (Below.refl _ _).alloc (Nat.le_refl _) _⟩

theorem in24 (l m n : Int) (b : Bool) (hb : decide (l ≤ n ∧ n ≤ m) = b) (w : World) : Calls Try.prog 24 #[.int .i64 n, .int .i64 l, .int .i64 m] w fun e w' => e = .returned (.bool b) ∧ w' = w := by
  go_enter Try.func24, Try.ntmps24
  by_cases h1 : l ≤ n
  · by_cases h2 : n ≤ m
    · go_wp2
      go_ret
      exact ⟨by rw [← hb, decide_eq_true ⟨h1, h2⟩]; rfl, rfl⟩
    · go_wp2
      go_ret
      exact ⟨by rw [← hb, decide_eq_false (fun h => by omega)]; rfl, rfl⟩
  · go_wp2
    go_ret
    exact ⟨by rw [← hb, decide_eq_false (fun h => by omega)]; rfl, rfl⟩

theorem heap_new (w : World) (o : Obj) : (w.alloc o).heap[w.heap.size]? = some o := by
  show (w.heap.push _)[w.heap.size]? = _
  simp

/-- a row of three cells that was laid, behind what only grows -/
theorem row3_after {w W' : World} {k : Nat} {t : TypeId} {x y z : Value} (h : w.heap[k]? = some (.cells #[x, y, z] t)) (hb : Below w.heap.size w W') :
    W'.heap[k]? = some (.cells #[x, y, z] t) := by
  have hlt : k < w.heap.size := by
    rcases Nat.lt_or_ge k w.heap.size with h' | h'
    · exact h'
    · rw [Array.getElem?_eq_none h'] at h; cases h
  rw [hb.block k hlt]
  exact h

theorem row3_cells {w : World} {k : Nat} {t : TypeId} {x y z : Value} (h : w.heap[k]? = some (.cells #[x, y, z] t)) :
    w.cell? ⟨k, 0, none⟩ = some x ∧ w.cell? ⟨k, 1, none⟩ = some y ∧ w.cell? ⟨k, 2, none⟩ = some z ∧ w.frozen? ⟨k, 0, none⟩ = false ∧ w.frozen? ⟨k, 1, none⟩ = false ∧ w.frozen? ⟨k, 2, none⟩ = false := by
  refine ⟨?_, ?_, ?_, ?_, ?_, ?_⟩ <;> simp [World.cell?, World.frozen?, h]

theorem srate12 (n d r : Int) (w : World) : Calls Try.prog 12 #[rateV n d r] w fun e w' => e = .returned (.bool (rateOk n d r)) ∧ Below w.heap.size w w' := by
  unfold rateV
  have hb0 : Below w.heap.size w (w.alloc (.cells #[.int .i64 n, .int .i64 d, .int .i64 r] 27)) := (Below.refl _ _).alloc (Nat.le_refl _) _
  go_enter Try.func12, Try.ntmps12
  by_cases h1 : 0 ≤ n ∧ n ≤ 1000000
  · by_cases h2 : 1 ≤ d ∧ d ≤ 1000000
    · by_cases h3 : 0 ≤ r ∧ r ≤ d - 1
      · go_wp2_with fail
        refine (in24 0 1000000 n true (decide_eq_true h1) _).mono ?_
        rintro e w1 ⟨rfl, rfl⟩
        go_wp2_with fail
        refine (in24 1 1000000 d true (decide_eq_true h2) _).mono ?_
        rintro e w1 ⟨rfl, rfl⟩
        go_wp2_with fail
        refine (in24 0 (d - 1) r true (decide_eq_true h3) _).mono ?_
        rintro e w1 ⟨rfl, rfl⟩
        go_wp2
        go_ret
        exact ⟨by rw [show rateOk n d r = true from decide_eq_true (by omega)]; rfl, hb0⟩
      · go_wp2_with fail
        refine (in24 0 1000000 n true (decide_eq_true h1) _).mono ?_
        rintro e w1 ⟨rfl, rfl⟩
        go_wp2_with fail
        refine (in24 1 1000000 d true (decide_eq_true h2) _).mono ?_
        rintro e w1 ⟨rfl, rfl⟩
        go_wp2_with fail
        refine (in24 0 (d - 1) r false (decide_eq_false h3) _).mono ?_
        rintro e w1 ⟨rfl, rfl⟩
        go_wp2
        go_ret
        exact ⟨by rw [show rateOk n d r = false from decide_eq_false (by omega)]; rfl, hb0⟩
    · go_wp2_with fail
      refine (in24 0 1000000 n true (decide_eq_true h1) _).mono ?_
      rintro e w1 ⟨rfl, rfl⟩
      go_wp2_with fail
      refine (in24 1 1000000 d false (decide_eq_false h2) _).mono ?_
      rintro e w1 ⟨rfl, rfl⟩
      go_wp2
      go_ret
      exact ⟨by rw [show rateOk n d r = false from decide_eq_false (by omega)]; rfl, hb0⟩
  · go_wp2_with fail
    refine (in24 0 1000000 n false (decide_eq_false h1) _).mono ?_
    rintro e w1 ⟨rfl, rfl⟩
    go_wp2
    go_ret
    exact ⟨by rw [show rateOk n d r = false from decide_eq_false (by omega)]; rfl, hb0⟩

theorem rate14 (n d r : Int) (w : World) : Calls Try.prog 14 #[rateV n d r] w fun e w' => e = .returned (.bool (rateOk n d r)) ∧ Below w.heap.size w w' := by
  unfold rateV
  have hb0 : Below w.heap.size w (w.alloc (.cells #[.int .i64 n, .int .i64 d, .int .i64 r] 27)) := (Below.refl _ _).alloc (Nat.le_refl _) _
  have hh : (w.alloc (.cells #[.int .i64 n, .int .i64 d, .int .i64 r] 27)).heap[w.heap.size]? = some (.cells #[.int .i64 n, .int .i64 d, .int .i64 r] 27) := heap_new _ _
  go_enter Try.func14, Try.ntmps14
  by_cases h1 : 0 ≤ n ∧ n ≤ 1000000
  · by_cases h2 : 1 ≤ d ∧ d ≤ 1000000
    · by_cases h3 : 0 ≤ r ∧ r ≤ d - 1
      · go_wp2_with fail
        refine (holds25 0 1000000 n true (decide_eq_true h1) _).mono ?_
        rintro e w1 ⟨rfl, hb1⟩
        have hh1 := row3_after hh hb1
        have c11 := row3_cells hh1
        have bel1 := hb0.trans (hb1.mono hb0.size)
        go_wp2_with fail
        refine (holds25 1 1000000 d true (decide_eq_true h2) _).mono ?_
        rintro e w2 ⟨rfl, hb2⟩
        have hh2 := row3_after hh1 hb2
        have c21 := row3_cells hh2
        have bel2 := bel1.trans (hb2.mono bel1.size)
        go_wp2_with fail
        refine (holds25 0 (d - 1) r true (decide_eq_true h3) _).mono ?_
        rintro e w3 ⟨rfl, hb3⟩
        have hh3 := row3_after hh2 hb3
        have c31 := row3_cells hh3
        have bel3 := bel2.trans (hb3.mono bel2.size)
        go_wp2
        go_ret
        exact ⟨by rw [show rateOk n d r = true from decide_eq_true (by omega)]; rfl, bel3⟩
      · go_wp2_with fail
        refine (holds25 0 1000000 n true (decide_eq_true h1) _).mono ?_
        rintro e w1 ⟨rfl, hb1⟩
        have hh1 := row3_after hh hb1
        have c11 := row3_cells hh1
        have bel1 := hb0.trans (hb1.mono hb0.size)
        go_wp2_with fail
        refine (holds25 1 1000000 d true (decide_eq_true h2) _).mono ?_
        rintro e w2 ⟨rfl, hb2⟩
        have hh2 := row3_after hh1 hb2
        have c21 := row3_cells hh2
        have bel2 := bel1.trans (hb2.mono bel1.size)
        go_wp2_with fail
        refine (holds25 0 (d - 1) r false (decide_eq_false h3) _).mono ?_
        rintro e w3 ⟨rfl, hb3⟩
        have hh3 := row3_after hh2 hb3
        have c31 := row3_cells hh3
        have bel3 := bel2.trans (hb3.mono bel2.size)
        go_wp2
        go_ret
        exact ⟨by rw [show rateOk n d r = false from decide_eq_false (by omega)]; rfl, bel3⟩
    · go_wp2_with fail
      refine (holds25 0 1000000 n true (decide_eq_true h1) _).mono ?_
      rintro e w1 ⟨rfl, hb1⟩
      have hh1 := row3_after hh hb1
      have c11 := row3_cells hh1
      have bel1 := hb0.trans (hb1.mono hb0.size)
      go_wp2_with fail
      refine (holds25 1 1000000 d false (decide_eq_false h2) _).mono ?_
      rintro e w2 ⟨rfl, hb2⟩
      have hh2 := row3_after hh1 hb2
      have c21 := row3_cells hh2
      have bel2 := bel1.trans (hb2.mono bel1.size)
      go_wp2
      go_ret
      exact ⟨by rw [show rateOk n d r = false from decide_eq_false (by omega)]; rfl, bel2⟩
  · go_wp2_with fail
    refine (holds25 0 1000000 n false (decide_eq_false h1) _).mono ?_
    rintro e w1 ⟨rfl, hb1⟩
    have hh1 := row3_after hh hb1
    have c11 := row3_cells hh1
    have bel1 := hb0.trans (hb1.mono hb0.size)
    go_wp2
    go_ret
    exact ⟨by rw [show rateOk n d r = false from decide_eq_false (by omega)]; rfl, bel1⟩

theorem to13 (n d r : Int) (w : World) : Calls Try.prog 13 #[rateV n d r] w fun e w' => e = .returned (rateV n d r) ∧ Below w.heap.size w w' := by
  unfold rateV
  go_enter Try.func13, Try.ntmps13
  go_wp2
  refine bodyPost_ret (v := .agg #[.int .i64 n, .int .i64 d, .int .i64 r]) (by simp [results, Try.results13, go_sem]) rfl ⟨rfl, ?_⟩
  exact (((Below.refl _ _).alloc (Nat.le_refl _) _).alloc (by simp) _).alloc (by simp; omega) _

def stepR (n d r : Int) : Int := if (0 ≤ n ∧ n ≤ 1000000 ∧ 1 ≤ d ∧ d ≤ 1000000 ∧ 0 ≤ r ∧ r ≤ d - 1) then (r + n) % d else r
def stepO (n d r : Int) : Int := if (0 ≤ n ∧ n ≤ 1000000 ∧ 1 ≤ d ∧ d ≤ 1000000 ∧ 0 ≤ r ∧ r ≤ d - 1) then (r + n) / d else 0

/-- what a rate and a result laid side by side are behind a call that only grows -/
theorem two_rows {w w1 : World} {a b c x y z : Value} (hb1 : Below ((w.alloc (.cells #[a, b, c] 27)).alloc (.cells #[x, y, z] 27)).heap.size ((w.alloc (.cells #[a, b, c] 27)).alloc (.cells #[x, y, z] 27)) w1) :
    w1.heap[w.heap.size]? = some (.cells #[a, b, c] 27) ∧ w1.heap[w.heap.size + 1]? = some (.cells #[x, y, z] 27) ∧ Below w.heap.size w w1 := by
  have hb0 : Below w.heap.size w ((w.alloc (.cells #[a, b, c] 27)).alloc (.cells #[x, y, z] 27)) := ((Below.refl _ _).alloc (Nat.le_refl _) _).alloc (by simp) _
  refine ⟨row3_after ?_ hb1, row3_after ?_ hb1, hb0.trans (hb1.mono hb0.size)⟩
  · rw [Below.heap_alloc _ _ _ (by simp)]
    exact heap_new _ _
  · have := heap_new (w.alloc (.cells #[a, b, c] 27)) (.cells #[x, y, z] 27)
    simpa using this

theorem sstep15 (n d r : Int) (w : World) : Calls Try.prog 15 #[rateV n d r] w fun e w' => e = .returned (.tuple #[rateV n d (stepR n d r), .int .i64 (stepO n d r)]) ∧ Below w.heap.size w w' := by
  have hs := srate12 n d r
  by_cases hR : (0 ≤ n ∧ n ≤ 1000000 ∧ 1 ≤ d ∧ d ≤ 1000000 ∧ 0 ≤ r ∧ r ≤ d - 1)
  · rw [show stepR n d r = (r + n) % d from if_pos hR, show stepO n d r = (r + n) / d from if_pos hR]
    rw [show rateOk n d r = true from decide_eq_true hR] at hs
    obtain ⟨a1, a2, a3, a4, a5, a6⟩ := hR
    have dz : ¬ d = 0 := by omega
    unfold rateV at hs ⊢
    go_enter Try.func15, Try.ntmps15
    go_wp2_with fail
    refine (hs _).mono ?_
    rintro e w1 ⟨rfl, hb1⟩
    obtain ⟨g1, g2, bel⟩ := two_rows hb1
    have k1 := row3_cells g1
    have k2 := row3_cells g2
    clear hs hb1
    go_wp2
    refine bodyPost_ret (v := .tuple #[.agg #[.int .i64 n, .int .i64 d, .int .i64 ((r + n) % d)], .int .i64 ((r + n) / d)]) (by simp [results, Try.results15, go_sem, k2]) rfl ⟨rfl, ?_⟩
    exact (((bel.setCell (by simp) _).setCell (by simp) _).setCell (by simp) _).setCell (by simp) _
  · rw [show stepR n d r = r from if_neg hR, show stepO n d r = 0 from if_neg hR]
    rw [show rateOk n d r = false from decide_eq_false hR] at hs
    unfold rateV at hs ⊢
    go_enter Try.func15, Try.ntmps15
    go_wp2_with fail
    refine (hs _).mono ?_
    rintro e w1 ⟨rfl, hb1⟩
    obtain ⟨g1, g2, bel⟩ := two_rows hb1
    have k1 := row3_cells g1
    have k2 := row3_cells g2
    clear hs hb1
    go_wp2
    refine bodyPost_ret (v := .tuple #[.agg #[.int .i64 n, .int .i64 d, .int .i64 r], .int .i64 0]) (by simp [results, Try.results15, go_sem, k2]) rfl ⟨rfl, ?_⟩
    exact ((bel.setCell (by simp) _).setCell (by simp) _).setCell (by simp) _

theorem step16 (n d r : Int) (w : World) : Calls Try.prog 16 #[rateV n d r] w fun e w' => e = .returned (.tuple #[rateV n d (stepR n d r), .int .i64 (stepO n d r)]) ∧ Below w.heap.size w w' := by
  have hs := rate14 n d r
  by_cases hR : (0 ≤ n ∧ n ≤ 1000000 ∧ 1 ≤ d ∧ d ≤ 1000000 ∧ 0 ≤ r ∧ r ≤ d - 1)
  · rw [show stepR n d r = (r + n) % d from if_pos hR, show stepO n d r = (r + n) / d from if_pos hR]
    rw [show rateOk n d r = true from decide_eq_true hR] at hs
    obtain ⟨a1, a2, a3, a4, a5, a6⟩ := hR
    have dz : ¬ d = 0 := by omega
    unfold rateV at hs ⊢
    go_enter Try.func16, Try.ntmps16
    go_wp2_with fail
    refine (hs _).mono ?_
    rintro e w1 ⟨rfl, hb1⟩
    obtain ⟨g1, g2, bel⟩ := two_rows hb1
    have k1 := row3_cells g1
    have k2 := row3_cells g2
    clear hs hb1
    go_wp2
    go_region
    go_wp2
    refine bodyPost_ret (v := .tuple #[.agg #[.int .i64 n, .int .i64 d, .int .i64 ((r + n) % d)], .int .i64 ((r + n) / d)]) (by simp [results, Try.results16, go_sem, k2]) rfl ⟨rfl, ?_⟩
    refine Below.drew ?_
    exact (((bel.setCell (by simp) _).setCell (by simp) _).setCell (by simp) _).setCell (by simp) _
  · rw [show stepR n d r = r from if_neg hR, show stepO n d r = 0 from if_neg hR]
    rw [show rateOk n d r = false from decide_eq_false hR] at hs
    unfold rateV at hs ⊢
    go_enter Try.func16, Try.ntmps16
    go_wp2_with fail
    refine (hs _).mono ?_
    rintro e w1 ⟨rfl, hb1⟩
    obtain ⟨g1, g2, bel⟩ := two_rows hb1
    have k1 := row3_cells g1
    have k2 := row3_cells g2
    clear hs hb1
    go_wp2
    refine bodyPost_ret (v := .tuple #[.agg #[.int .i64 n, .int .i64 d, .int .i64 r], .int .i64 0]) (by simp [results, Try.results16, go_sem, k2]) rfl ⟨rfl, ?_⟩
    exact ((bel.setCell (by simp) _).setCell (by simp) _).setCell (by simp) _

theorem eq17 (n d r : Int) (w : World) : Calls Try.prog 17 #[rateV n d r, rateV n d r] w fun e w' => e = .returned (.bool true) ∧ Below w.heap.size w w' := by
  unfold rateV
  go_enter Try.func17, Try.ntmps17
  go_wp2
  go_ret
  exact ⟨rfl, ((Below.refl _ _).alloc (Nat.le_refl _) _).alloc (by simp) _⟩
end Go.Proofs.Ytcjidlbpkijmnam
