/-
  Rates: whether one is right, and a step of one; the contracts of the program's and of the specification's.
-/
import Derived.Test.YtckeffccoghgeaaDoorOrdK
namespace Go.Proofs.YtckeffccoghgeaaDoor
open Go.RowKit Go.PlainAid
set_option linter.unusedVariables false

/-- a rate, as a value -/
def rateV (n d r : Int) : Value := .agg #[.int .i64 n, .int .i64 d, .int .i64 r]
def rateOk (n d r : Int) : Bool := decide ((0 ≤ n ∧ n ≤ 1000000 ∧ 1 ≤ d ∧ d ≤ 1000000 ∧ 0 ≤ r ∧ r ≤ d - 1))

/-- a row of three cells that was laid, behind what only grows -/
theorem rat_on {w W' : World} {k : Nat} {t : TypeId} {x y z : Value} (h : w.heap[k]? = some (.cells #[x, y, z] t)) (hb : Below w.heap.size w W') :
    W'.heap[k]? = some (.cells #[x, y, z] t) := by
  have hlt : k < w.heap.size := by
    rcases Nat.lt_or_ge k w.heap.size with h' | h'
    · exact h'
    · rw [Array.getElem?_eq_none h'] at h; cases h
  rw [hb.block k hlt]
  exact h

theorem rat_cells {w : World} {k : Nat} {t : TypeId} {x y z : Value} (h : w.heap[k]? = some (.cells #[x, y, z] t)) :
    w.cell? ⟨k, 0, none⟩ = some x ∧ w.cell? ⟨k, 1, none⟩ = some y ∧ w.cell? ⟨k, 2, none⟩ = some z ∧ w.frozen? ⟨k, 0, none⟩ = false ∧ w.frozen? ⟨k, 1, none⟩ = false ∧ w.frozen? ⟨k, 2, none⟩ = false := by
  refine ⟨?_, ?_, ?_, ?_, ?_, ?_⟩ <;> simp [World.cell?, World.frozen?, h]

theorem rateS (n d r : Int) (w : World) : Calls Tryd.prog 49 #[rateV n d r] w fun e w' => e = .returned (.bool (rateOk n d r)) ∧ Below w.heap.size w w' := by
  unfold rateV
  have hb0 : Below w.heap.size w (w.alloc (.cells #[.int .i64 n, .int .i64 d, .int .i64 r] 36)) := (Below.refl _ _).alloc (Nat.le_refl _) _
  go_enter Tryd.func49, Tryd.ntmps49
  by_cases h1 : 0 ≤ n ∧ n ≤ 1000000
  · by_cases h2 : 1 ≤ d ∧ d ≤ 1000000
    · by_cases h3 : 0 ≤ r ∧ r ≤ d - 1
      · go_wp2_with fail
        refine (inS 0 1000000 n true (decide_eq_true h1) _).mono ?_
        rintro e w1 ⟨rfl, rfl⟩
        go_wp2_with fail
        refine (inS 1 1000000 d true (decide_eq_true h2) _).mono ?_
        rintro e w1 ⟨rfl, rfl⟩
        go_wp2_with fail
        refine (inS 0 (d - 1) r true (decide_eq_true h3) _).mono ?_
        rintro e w1 ⟨rfl, rfl⟩
        go_wp2
        go_ret
        exact ⟨by rw [show rateOk n d r = true from decide_eq_true (by omega)]; rfl, hb0⟩
      · go_wp2_with fail
        refine (inS 0 1000000 n true (decide_eq_true h1) _).mono ?_
        rintro e w1 ⟨rfl, rfl⟩
        go_wp2_with fail
        refine (inS 1 1000000 d true (decide_eq_true h2) _).mono ?_
        rintro e w1 ⟨rfl, rfl⟩
        go_wp2_with fail
        refine (inS 0 (d - 1) r false (decide_eq_false h3) _).mono ?_
        rintro e w1 ⟨rfl, rfl⟩
        go_wp2
        go_ret
        exact ⟨by rw [show rateOk n d r = false from decide_eq_false (by omega)]; rfl, hb0⟩
    · go_wp2_with fail
      refine (inS 0 1000000 n true (decide_eq_true h1) _).mono ?_
      rintro e w1 ⟨rfl, rfl⟩
      go_wp2_with fail
      refine (inS 1 1000000 d false (decide_eq_false h2) _).mono ?_
      rintro e w1 ⟨rfl, rfl⟩
      go_wp2
      go_ret
      exact ⟨by rw [show rateOk n d r = false from decide_eq_false (by omega)]; rfl, hb0⟩
  · go_wp2_with fail
    refine (inS 0 1000000 n false (decide_eq_false h1) _).mono ?_
    rintro e w1 ⟨rfl, rfl⟩
    go_wp2
    go_ret
    exact ⟨by rw [show rateOk n d r = false from decide_eq_false (by omega)]; rfl, hb0⟩

theorem rateI (n d r : Int) (w : World) : Calls Tryd.prog 52 #[rateV n d r] w fun e w' => e = .returned (.bool (rateOk n d r)) ∧ Below w.heap.size w w' := by
  unfold rateV
  have hb0 : Below w.heap.size w (w.alloc (.cells #[.int .i64 n, .int .i64 d, .int .i64 r] 36)) := (Below.refl _ _).alloc (Nat.le_refl _) _
  have hh : (w.alloc (.cells #[.int .i64 n, .int .i64 d, .int .i64 r] 36)).heap[w.heap.size]? = some (.cells #[.int .i64 n, .int .i64 d, .int .i64 r] 36) := heap_new _ _
  go_enter Tryd.func52, Tryd.ntmps52
  by_cases h1 : 0 ≤ n ∧ n ≤ 1000000
  · by_cases h2 : 1 ≤ d ∧ d ≤ 1000000
    · by_cases h3 : 0 ≤ r ∧ r ≤ d - 1
      · go_wp2_with fail
        refine (holdsI 0 1000000 n true (decide_eq_true h1) _).mono ?_
        rintro e w1 ⟨rfl, hb1⟩
        have hh1 := rat_on hh hb1
        have c11 := rat_cells hh1
        have bel1 := hb0.trans (hb1.mono hb0.size)
        go_wp2_with fail
        refine (holdsI 1 1000000 d true (decide_eq_true h2) _).mono ?_
        rintro e w2 ⟨rfl, hb2⟩
        have hh2 := rat_on hh1 hb2
        have c21 := rat_cells hh2
        have bel2 := bel1.trans (hb2.mono bel1.size)
        go_wp2_with fail
        refine (holdsI 0 (d - 1) r true (decide_eq_true h3) _).mono ?_
        rintro e w3 ⟨rfl, hb3⟩
        have hh3 := rat_on hh2 hb3
        have c31 := rat_cells hh3
        have bel3 := bel2.trans (hb3.mono bel2.size)
        go_wp2
        go_ret
        exact ⟨by rw [show rateOk n d r = true from decide_eq_true (by omega)]; rfl, bel3⟩
      · go_wp2_with fail
        refine (holdsI 0 1000000 n true (decide_eq_true h1) _).mono ?_
        rintro e w1 ⟨rfl, hb1⟩
        have hh1 := rat_on hh hb1
        have c11 := rat_cells hh1
        have bel1 := hb0.trans (hb1.mono hb0.size)
        go_wp2_with fail
        refine (holdsI 1 1000000 d true (decide_eq_true h2) _).mono ?_
        rintro e w2 ⟨rfl, hb2⟩
        have hh2 := rat_on hh1 hb2
        have c21 := rat_cells hh2
        have bel2 := bel1.trans (hb2.mono bel1.size)
        go_wp2_with fail
        refine (holdsI 0 (d - 1) r false (decide_eq_false h3) _).mono ?_
        rintro e w3 ⟨rfl, hb3⟩
        have hh3 := rat_on hh2 hb3
        have c31 := rat_cells hh3
        have bel3 := bel2.trans (hb3.mono bel2.size)
        go_wp2
        go_ret
        exact ⟨by rw [show rateOk n d r = false from decide_eq_false (by omega)]; rfl, bel3⟩
    · go_wp2_with fail
      refine (holdsI 0 1000000 n true (decide_eq_true h1) _).mono ?_
      rintro e w1 ⟨rfl, hb1⟩
      have hh1 := rat_on hh hb1
      have c11 := rat_cells hh1
      have bel1 := hb0.trans (hb1.mono hb0.size)
      go_wp2_with fail
      refine (holdsI 1 1000000 d false (decide_eq_false h2) _).mono ?_
      rintro e w2 ⟨rfl, hb2⟩
      have hh2 := rat_on hh1 hb2
      have c21 := rat_cells hh2
      have bel2 := bel1.trans (hb2.mono bel1.size)
      go_wp2
      go_ret
      exact ⟨by rw [show rateOk n d r = false from decide_eq_false (by omega)]; rfl, bel2⟩
  · go_wp2_with fail
    refine (holdsI 0 1000000 n false (decide_eq_false h1) _).mono ?_
    rintro e w1 ⟨rfl, hb1⟩
    have hh1 := rat_on hh hb1
    have c11 := rat_cells hh1
    have bel1 := hb0.trans (hb1.mono hb0.size)
    go_wp2
    go_ret
    exact ⟨by rw [show rateOk n d r = false from decide_eq_false (by omega)]; rfl, bel1⟩

theorem toRat (n d r : Int) (w : World) : Calls Tryd.prog 35 #[rateV n d r] w fun e w' => e = .returned (rateV n d r) ∧ Below w.heap.size w w' := by
  unfold rateV
  go_enter Tryd.func35, Tryd.ntmps35
  go_wp2
  refine bodyPost_ret (v := .agg #[.int .i64 n, .int .i64 d, .int .i64 r]) (by simp [results, Tryd.results35, go_sem]) rfl ⟨rfl, ?_⟩
  exact (((Below.refl _ _).alloc (Nat.le_refl _) _).alloc (by simp) _).alloc (by simp; omega) _

def stepR (n d r : Int) : Int := if (0 ≤ n ∧ n ≤ 1000000 ∧ 1 ≤ d ∧ d ≤ 1000000 ∧ 0 ≤ r ∧ r ≤ d - 1) then (r + n) % d else r
def stepO (n d r : Int) : Int := if (0 ≤ n ∧ n ≤ 1000000 ∧ 1 ≤ d ∧ d ≤ 1000000 ∧ 0 ≤ r ∧ r ≤ d - 1) then (r + n) / d else 0

/-- what a rate and a result laid side by side are behind a call that only grows -/
theorem two_rows {w w1 : World} {a b c x y z : Value} (hb1 : Below ((w.alloc (.cells #[a, b, c] 36)).alloc (.cells #[x, y, z] 36)).heap.size ((w.alloc (.cells #[a, b, c] 36)).alloc (.cells #[x, y, z] 36)) w1) :
    w1.heap[w.heap.size]? = some (.cells #[a, b, c] 36) ∧ w1.heap[w.heap.size + 1]? = some (.cells #[x, y, z] 36) ∧ Below w.heap.size w w1 := by
  have hb0 : Below w.heap.size w ((w.alloc (.cells #[a, b, c] 36)).alloc (.cells #[x, y, z] 36)) := ((Below.refl _ _).alloc (Nat.le_refl _) _).alloc (by simp) _
  refine ⟨rat_on ?_ hb1, rat_on ?_ hb1, hb0.trans (hb1.mono hb0.size)⟩
  · rw [Below.heap_alloc _ _ _ (by simp)]
    exact heap_new _ _
  · have := heap_new (w.alloc (.cells #[a, b, c] 36)) (.cells #[x, y, z] 36)
    simpa using this

theorem eqRat (n d r : Int) (w : World) : Calls Tryd.prog 46 #[rateV n d r, rateV n d r] w fun e w' => e = .returned (.bool true) ∧ Below w.heap.size w w' := by
  unfold rateV
  go_enter Tryd.func46, Tryd.ntmps46
  go_wp2
  go_ret
  exact ⟨rfl, ((Below.refl _ _).alloc (Nat.le_refl _) _).alloc (by simp) _⟩
end Go.Proofs.YtckeffccoghgeaaDoor
