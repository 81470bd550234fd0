/-
  Plain helpers over this translation.
-/
import Derived.Test.YtcjidlbpkijmnaaChecked
import Derived.WalkKit
import Derived.ProofKit
import Derived.Handy
import Derived.LoopTactic
import Derived.Below
import Derived.Laws.IdiomStrings
import Derived.PlainAid
import Derived.Deep.RegionWith
import Derived.Deep.RegionHeld3
import Derived.Laws.DeepStrings4
import Derived.Deep.QuietTactic
import Derived.BigQuiet
import Derived.WalkSmall
import Derived.Deep.AppendLies
import Derived.Deep.RegionLaw
import Derived.Laws.BytesArg
import Derived.Deep.LoopGhost
import Derived.WalkMore
namespace Go.Proofs.Ytcjidlbpkijmnaa
open Go.RowKit Go.PlainAid
set_option linter.unusedVariables false

/-- a number, taken into -Big .. Big -/
def sat (x : Int) : Int := if x > 1000000000000 then 1000000000000 else if x < -1000000000000 then -1000000000000 else x

theorem sat_hi {n : Int} (h : n > 1000000000000) : sat n = 1000000000000 := if_pos h
theorem sat_lo {n : Int} (h : n < -1000000000000) : sat n = -1000000000000 := by
  unfold sat
  rw [if_neg (by omega), if_pos h]
theorem sat_in {n : Int} (h : -1000000000000 ≤ n) (h' : n ≤ 1000000000000) : sat n = n := by
  unfold sat
  rw [if_neg (by omega), if_neg (by omega)]

theorem into22 (n : Int) (w : World) : Calls Try.prog 22 #[.int .i64 n] w fun e w' => e = .returned (.int .i64 (sat n)) ∧ w' = w := by
  go_enter Try.func22, Try.ntmps22
  by_cases h1 : n > 1000000000000
  · go_wp2
    go_ret
    exact ⟨by rw [sat_hi h1]; rfl, rfl⟩
  · by_cases h2 : n < -1000000000000
    · go_wp2
      go_ret
      exact ⟨by rw [sat_lo h2]; rfl, rfl⟩
    · go_wp2
      go_ret
      exact ⟨by rw [sat_in (by omega) (by omega)]; rfl, rfl⟩

theorem bounds19 (w : World) : Calls Try.prog 19 #[] w fun e w' => e = .returned (.agg #[.int .i64 (-1000000000000), .int .i64 1000000000000]) ∧ Below w.heap.size w w' := by
  go_enter Try.func19, Try.ntmps19
  go_wp2
  refine bodyPost_ret (v := .agg #[.int .i64 (-1000000000000), .int .i64 1000000000000]) (by simp [results, Try.results19, go_sem]) rfl ⟨rfl, ?_⟩
  exact Below.alloc (Below.refl _ _) (Nat.le_refl _) _

theorem intoI20 (l m n : Int) (w : World) : Calls Try.prog 20 #[.agg #[.int .i64 l, .int .i64 m], .int .i64 n] w fun e w' => e = .returned (.int .i64 (min (max n l) m)) ∧ Below w.heap.size w w' := by
  go_enter Try.func20, Try.ntmps20
  by_cases h1 : n < l
  · by_cases h2 : m < l
    · go_wp2
      go_ret
      exact ⟨by rw [show min (max n l) m = m by omega]; rfl, (Below.refl _ _).alloc (Nat.le_refl _) _⟩
    · go_wp2
      go_ret
      exact ⟨by rw [show min (max n l) m = l by omega]; rfl, (Below.refl _ _).alloc (Nat.le_refl _) _⟩
  · by_cases h2 : m < n
    · go_wp2
      go_ret
      exact ⟨by rw [show min (max n l) m = m by omega]; rfl, (Below.refl _ _).alloc (Nat.le_refl _) _⟩
    · go_wp2
      go_ret
      exact ⟨by rw [show min (max n l) m = n by omega]; rfl, (Below.refl _ _).alloc (Nat.le_refl _) _⟩

theorem minmax_sat (n : Int) : min (max n (-1000000000000)) 1000000000000 = sat n := by
  unfold sat
  split
  · omega
  · split <;> omega

theorem intoB20 (n : Int) (w : World) : Calls Try.prog 20 #[.agg #[.int .i64 (-1000000000000), .int .i64 1000000000000], .int .i64 n] w fun e w' => e = .returned (.int .i64 (sat n)) ∧ Below w.heap.size w w' := by
  rw [← minmax_sat]
  exact intoI20 _ _ n w

theorem sat_range (n : Int) : -1000000000000 ≤ sat n ∧ sat n ≤ 1000000000000 := by
  unfold sat
  split
  · omega
  · split <;> omega

theorem wrap_in {n : Int} (h0 : -9223372036854775808 ≤ n) (h1 : n ≤ 9223372036854775807) : IntKind.i64.wrap n = n := by
  rw [IntKind.wrap_i64]
  omega

def addS (a b : Int) : Int := sat (sat a + sat b)

theorem spec10 (a b : Int) (w : World) : Calls Try.prog 10 #[.int .i64 a, .int .i64 b] w fun e w' => e = .returned (.int .i64 (addS a b)) ∧ w' = w := by
  have ha := sat_range a
  have hb := sat_range b
  go_enter Try.func10, Try.ntmps10
  go_wp2_with fail
  refine (into22 a _).mono ?_
  rintro e w1 ⟨rfl, rfl⟩
  go_wp2_with fail
  refine (into22 b _).mono ?_
  rintro e w1 ⟨rfl, rfl⟩
  go_wp2_with fail
  refine (into22 (sat a + sat b) _).mono ?_
  rintro e w1 ⟨rfl, rfl⟩
  go_wp2
  go_ret
  exact ⟨rfl, rfl⟩

/-- the two cells of bounds, the worlds behind -/
theorem big_keep {B g : Nat} {w W W' : World} {u v : Value} (hb : Below W.heap.size W W') (h : W.cell? ⟨g, 0, none⟩ = some u ∧ W.cell? ⟨g, 1, none⟩ = some v ∧ g < W.heap.size ∧ B ≤ W.heap.size ∧ Below B w W) :
    W'.cell? ⟨g, 0, none⟩ = some u ∧ W'.cell? ⟨g, 1, none⟩ = some v ∧ g < W'.heap.size ∧ B ≤ W'.heap.size ∧ Below B w W' := by
  obtain ⟨h0, h1, h2, h3, h4⟩ := h
  have := hb.size
  exact ⟨by rw [hb.cell (p := ⟨g, 0, none⟩) h2]; exact h0, by rw [hb.cell (p := ⟨g, 1, none⟩) h2]; exact h1, by omega, by omega, h4.trans (hb.mono h3)⟩

theorem add8 (a b : Int) (w : World) : Calls Try.prog 8 #[.int .i64 a, .int .i64 b] w fun e w' => e = .returned (.int .i64 (addS a b)) ∧ Below w.heap.size w w' := by
  have ha := sat_range a
  have hb := sat_range b
  go_enter Try.func8, Try.ntmps8
  go_wp2_with fail
  refine (bounds19 _).mono ?_
  rintro e w1 ⟨rfl, hb1⟩
  have s1 := hb1.size
  go_wp2_with fail
  have hb0 := hb1.alloc s1 (.cells #[.int .i64 (-1000000000000), .int .i64 1000000000000] 39)
  go_region_held3 (fun w' => w'.cell? ⟨w1.heap.size, 0, none⟩ = some (.int .i64 (-1000000000000)) ∧ w'.cell? ⟨w1.heap.size, 1, none⟩ = some (.int .i64 1000000000000) ∧ w1.heap.size < w'.heap.size ∧ w.heap.size ≤ w'.heap.size ∧ Below w.heap.size w w') (first | (refine big_keep (by assumption) ?_; assumption) | (refine ⟨by simp, by simp, by simp, by simp; omega, hb0.drew⟩)) (first | (go_at_call 20; refine (intoB20 _ _).mono ?_; rintro e w2 ⟨rfl, hb2⟩))
  rename_i w3 hb3 HH
  have hbw := HH.2.2.2.2
  go_wp2
  go_ret
  exact ⟨by rw [wrap_in (n := sat a + sat b) (by omega) (by omega)]; rfl, hbw⟩
end Go.Proofs.Ytcjidlbpkijmnaa
