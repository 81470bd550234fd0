/-
  Many steps of a rate: the contracts of the program's and of the specification's.
-/
import Derived.Test.YtcjidlbpkijmnamRate
namespace Go.Proofs.Ytcjidlbpkijmnam
open Go.RowKit Go.PlainAid
set_option linter.unusedVariables false

def runR (n d r : Int) : Nat → Int
  | 0 => r
  | k + 1 => stepR n d (runR n d r k)
def runS (n d r : Int) : Nat → Int
  | 0 => 0
  | k + 1 => runS n d r k + stepO n d (runR n d r k)
/-- how many steps -/
def cnt (m : Int) : Nat := (min m 1000).toNat

theorem stepO_range (n d r : Int) : 0 ≤ stepO n d r ∧ stepO n d r ≤ 2000000 := by
  unfold stepO
  split
  · rename_i h
    obtain ⟨a1, a2, a3, a4, a5, a6⟩ := h
    have h1 : 0 ≤ (r + n) / d := Int.ediv_nonneg (by omega) (by omega)
    have h2 : (r + n) / d ≤ r + n := Int.ediv_le_self _ (by omega)
    omega
  · omega

theorem runS_range (n d r : Int) (k : Nat) : 0 ≤ runS n d r k ∧ runS n d r k ≤ 2000000 * (k : Int) := by
  induction k with
  | zero => exact ⟨Int.le_refl _, Int.le_refl _⟩
  | succ k ih =>
    have := stepO_range n d (runR n d r k)
    show 0 ≤ runS n d r k + stepO n d (runR n d r k) ∧ runS n d r k + stepO n d (runR n d r k) ≤ _
    omega

theorem set1_row {w : World} {k i : Nat} {cs : Array Value} {t : TypeId} {x : Value} (h : w.heap[k]? = some (.cells cs t)) : (w.setCell ⟨k, i, none⟩ x).heap[k]? = some (.cells (cs.setIfInBounds i x) t) := by
  simp [World.setCell, Array.getElem?_modify, h]

theorem set3_row {w : World} {k : Nat} {a b c x y z : Value} (h : w.heap[k]? = some (.cells #[a, b, c] 27)) :
    (((w.setCell ⟨k, 0, none⟩ x).setCell ⟨k, 1, none⟩ y).setCell ⟨k, 2, none⟩ z).heap[k]? = some (.cells #[x, y, z] 27) :=
  set1_row (set1_row (set1_row h))

theorem set3_other {w : World} {k j : Nat} {x y z : Value} (hj : j ≠ k) :
    (((w.setCell ⟨k, 0, none⟩ x).setCell ⟨k, 1, none⟩ y).setCell ⟨k, 2, none⟩ z).heap[j]? = w.heap[j]? := by
  rw [Below.heap_setCell _ _ _ _ hj, Below.heap_setCell _ _ _ _ hj, Below.heap_setCell _ _ _ _ hj]

/-- the two rows that are laid at the start -/
theorem two_start (w : World) (a b c x y z : Value) :
    ((w.alloc (.cells #[a, b, c] 27)).alloc (.cells #[x, y, z] 27)).heap[w.heap.size]? = some (.cells #[a, b, c] 27) ∧ ((w.alloc (.cells #[a, b, c] 27)).alloc (.cells #[x, y, z] 27)).heap[w.heap.size + 1]? = some (.cells #[x, y, z] 27) ∧ Below w.heap.size w ((w.alloc (.cells #[a, b, c] 27)).alloc (.cells #[x, y, z] 27)) :=
  two_rows (Below.refl _ _)

set_option maxHeartbeats 1000000 in
theorem run19 (n d r m : Int) (w : World) : Calls Try.prog 19 #[rateV n d r, .int .i64 m] w fun e w' => e = .returned (.tuple #[rateV n d (runR n d r (cnt m)), .int .i64 (runS n d r (cnt m))]) ∧ Below w.heap.size w w' := by
  have hs := fun x => step16 n d x
  have HC : Hid (cnt m = (min m 1000).toNat) := rfl
  obtain ⟨ha, hb, hw⟩ := two_start w (.int .i64 n) (.int .i64 d) (.int .i64 r) (.int .i64 0) (.int .i64 0) (.int .i64 0)
  have HA : Hid (_ = _) := ha
  have HB : Hid (_ = _) := hb
  have HW : Hid (Below _ _ _) := hw
  clear ha hb hw
  unfold rateV at hs ⊢
  go_enter Try.func19, Try.ntmps19
  by_cases hm : 1000 < m
  · have hC2 : cnt m = 1000 := by have := HC.out; omega
    clear HC
    have HC : Hid (cnt m = 1000) := hC2
    clear hC2
    go_wp2
    go_loopw [6, 10] (fun sv iv wr => ∃ k : Nat, (k : Int) ≤ 1000 ∧ iv = .int .i64 k ∧ sv = .int .i64 (runS n d r k) ∧ Hid (wr.heap[w.heap.size]? = some (.cells #[.int .i64 n, .int .i64 d, .int .i64 (runR n d r k)] 27)) ∧ Hid (wr.heap[w.heap.size + 1]? = some (.cells #[.int .i64 0, .int .i64 0, .int .i64 0] 27)) ∧ Hid (Below w.heap.size w wr)) (fun _ iv _ => 1000 - (intOf iv).toNat)
    case atStart => exact ⟨0, by simp, rfl, rfl, HA, HB, HW⟩
    case round =>
      clear HA HB HW
      obtain ⟨k, hk, rfl, rfl, HA, HB, HW⟩ := hrel
      have hsum := runS_range n d r k
      have hsum1 := runS_range n d r (k + 1)
      have hone := stepO_range n d (runR n d r k)
      have k1 := row3_cells HA.out
      have k2 := row3_cells HB.out
      by_cases hlt : (k : Int) < 1000
      · go_wp2_with fail
        refine (hs _ _).mono ?_
        rintro e w1 ⟨rfl, hb1⟩
        have HA1 : Hid (w1.heap[w.heap.size]? = _) := row3_after HA.out hb1
        have HB1 : Hid (w1.heap[w.heap.size + 1]? = _) := row3_after HB.out hb1
        have HW1 : Hid (Below w.heap.size w w1) := HW.out.trans (hb1.mono HW.out.size)
        clear HA HB HW hb1 k1 k2
        have k1 := row3_cells HA1.out
        go_wp2
        go_roundw
        case rel =>
          refine ⟨k + 1, by omega, by go_num, rfl, ?_, ?_, ?_⟩
          · exact set3_row HA1.out
          · exact (set3_other (by omega)).trans HB1.out
          · exact ((HW1.out.setCell (by simp) _).setCell (by simp) _).setCell (by simp) _
        case measure => simp [intOf]; omega
      · have HK : Hid (k = cnt m) := by have := HC.out; show _ = _; omega
        go_wp2
        refine bodyPost_ret (v := .tuple #[.agg #[.int .i64 n, .int .i64 d, .int .i64 (runR n d r k)], .int .i64 (runS n d r k)]) (by simp [results, Try.results19, go_sem, k2]) rfl ⟨by rw [HK.out], ?_⟩
        exact ((HW.out.setCell (by simp) _).setCell (by simp) _).setCell (by simp) _
  · have hC2 : cnt m = m.toNat := by have := HC.out; omega
    clear HC
    have HC : Hid (cnt m = m.toNat) := hC2
    clear hC2
    go_wp2
    go_loopw [6, 10] (fun sv iv wr => ∃ k : Nat, k ≤ m.toNat ∧ iv = .int .i64 k ∧ sv = .int .i64 (runS n d r k) ∧ Hid (wr.heap[w.heap.size]? = some (.cells #[.int .i64 n, .int .i64 d, .int .i64 (runR n d r k)] 27)) ∧ Hid (wr.heap[w.heap.size + 1]? = some (.cells #[.int .i64 0, .int .i64 0, .int .i64 0] 27)) ∧ Hid (Below w.heap.size w wr)) (fun _ iv _ => m.toNat - (intOf iv).toNat)
    case atStart => exact ⟨0, by simp, rfl, rfl, HA, HB, HW⟩
    case round =>
      clear HA HB HW
      obtain ⟨k, hk, rfl, rfl, HA, HB, HW⟩ := hrel
      have hsum := runS_range n d r k
      have hsum1 := runS_range n d r (k + 1)
      have hone := stepO_range n d (runR n d r k)
      have k1 := row3_cells HA.out
      have k2 := row3_cells HB.out
      by_cases hlt : (k : Int) < m
      · go_wp2_with fail
        refine (hs _ _).mono ?_
        rintro e w1 ⟨rfl, hb1⟩
        have HA1 : Hid (w1.heap[w.heap.size]? = _) := row3_after HA.out hb1
        have HB1 : Hid (w1.heap[w.heap.size + 1]? = _) := row3_after HB.out hb1
        have HW1 : Hid (Below w.heap.size w w1) := HW.out.trans (hb1.mono HW.out.size)
        clear HA HB HW hb1 k1 k2
        have k1 := row3_cells HA1.out
        go_wp2
        go_roundw
        case rel =>
          refine ⟨k + 1, by omega, by go_num, rfl, ?_, ?_, ?_⟩
          · exact set3_row HA1.out
          · exact (set3_other (by omega)).trans HB1.out
          · exact ((HW1.out.setCell (by simp) _).setCell (by simp) _).setCell (by simp) _
        case measure => simp [intOf]; omega
      · have HK : Hid (k = cnt m) := by have := HC.out; show _ = _; omega
        go_wp2
        refine bodyPost_ret (v := .tuple #[.agg #[.int .i64 n, .int .i64 d, .int .i64 (runR n d r k)], .int .i64 (runS n d r k)]) (by simp [results, Try.results19, go_sem, k2]) rfl ⟨by rw [HK.out], ?_⟩
        exact ((HW.out.setCell (by simp) _).setCell (by simp) _).setCell (by simp) _

theorem row_lt {w : World} {k : Nat} {o : Obj} (h : w.heap[k]? = some o) : k < w.heap.size := by
  rcases Nat.lt_or_ge k w.heap.size with h' | h'
  · exact h'
  · rw [Array.getElem?_eq_none h'] at h; cases h

set_option maxHeartbeats 1000000 in
theorem srun18 (n d r m : Int) (w : World) : Calls Try.prog 18 #[rateV n d r, .int .i64 m] w fun e w' => e = .returned (.tuple #[rateV n d (runR n d r (cnt m)), .int .i64 (runS n d r (cnt m))]) ∧ Below w.heap.size w w' := by
  have hs := fun x => sstep15 n d x
  obtain ⟨N, HN⟩ : ∃ N : Nat, Hid ((N : Int) = 1000) := ⟨1000, rfl⟩
  have HC : Hid (cnt m = (min m 1000).toNat) := rfl
  obtain ⟨ha, hb, hw⟩ := two_start w (.int .i64 n) (.int .i64 d) (.int .i64 r) (.int .i64 0) (.int .i64 0) (.int .i64 0)
  have HA : Hid (_ = _) := ha
  have HB : Hid (_ = _) := hb
  have HW : Hid (Below _ _ _) := hw
  clear ha hb hw
  unfold rateV at hs ⊢
  go_enter Try.func18, Try.ntmps18
  go_wp2
  go_loopw [6, 7] (fun sv iv wr => ∃ k : Nat, (k : Int) ≤ 1000 ∧ Hid ((k : Int) ≤ max 0 (min m 1000)) ∧ iv = .int .i64 k ∧ sv = .int .i64 (runS n d r k) ∧ Hid (wr.heap[w.heap.size]? = some (.cells #[.int .i64 n, .int .i64 d, .int .i64 (runR n d r k)] 27)) ∧ Hid (wr.heap[w.heap.size + 1]? = some (.cells #[.int .i64 0, .int .i64 0, .int .i64 0] 27)) ∧ Hid (Below w.heap.size w wr)) (fun _ iv _ => N - (intOf iv).toNat)
  case atStart => exact ⟨0, by simp, (show Hid _ from by show (_ : Int) ≤ _; omega), rfl, rfl, HA, HB, HW⟩
  case round =>
    clear HA HB HW
    obtain ⟨k, hk1, HKK, rfl, rfl, HA, HB, HW⟩ := hrel
    have hk := HKK.out
    have hsum := runS_range n d r k
    have hsum1 := runS_range n d r (k + 1)
    have hone := stepO_range n d (runR n d r k)
    have k1 := row3_cells HA.out
    have k2 := row3_cells HB.out
    by_cases hlt : (k : Int) < m ∧ (k : Int) < 1000
    · obtain ⟨hlt1, hlt2⟩ := hlt
      have HK : Hid (((k + 1 : Nat) : Int) ≤ max 0 (min m 1000)) := by show _ ≤ _; omega
      clear hk
      go_wp2_with fail
      refine (hs _ _).mono ?_
      rintro e w1 ⟨rfl, hb1⟩
      have HA1 : Hid (w1.heap[w.heap.size]? = _) := row3_after HA.out hb1
      have HB1 : Hid (w1.heap[w.heap.size + 1]? = _) := row3_after HB.out hb1
      have HW1 : Hid (Below w.heap.size w w1) := HW.out.trans (hb1.mono HW.out.size)
      have l1 := row_lt HB1.out
      have n1 : ¬ w.heap.size = w1.heap.size := by omega
      have n2 : ¬ w1.heap.size = w.heap.size := by omega
      have HL1 : Hid (w.heap.size + 1 < w1.heap.size) := l1
      clear l1
      have HM : Hid ((k : Int) < 1000) := hlt2
      clear HA HB HW hb1 k1 k2 hlt1 hk1
      have k1 := row3_cells HA1.out
      have k3 := row3_cells ((Below.heap_alloc w1 (.cells #[.int .i64 n, .int .i64 d, .int .i64 (stepR n d (runR n d r k))] 27) _ (by have := HL1.out; omega)).trans HA1.out)
      go_wp2
      go_roundw
      case rel =>
        refine ⟨k + 1, by have := HM.out; omega, HK, by go_num, rfl, ?_, ?_, ?_⟩
        · exact set3_row ((Below.heap_alloc _ _ _ (by have := HL1.out; omega)).trans HA1.out)
        · exact (set3_other (by omega)).trans ((Below.heap_alloc _ _ _ (by have := HL1.out; omega)).trans HB1.out)
        · exact (((HW1.out.alloc (by have := HL1.out; omega) _).setCell (by simp) _).setCell (by simp) _).setCell (by simp) _
      case measure => have := HM.out; have := HN.out; simp [intOf]; omega
    · have HK : Hid (k = cnt m) := by have := HC.out; show _ = _; omega
      by_cases hlt1 : (k : Int) < m
      · have hlt2 : ¬ (k : Int) < 1000 := fun h => hlt ⟨hlt1, h⟩
        clear hlt hk
        go_wp2
        refine bodyPost_ret (v := .tuple #[.agg #[.int .i64 n, .int .i64 d, .int .i64 (runR n d r k)], .int .i64 (runS n d r k)]) (by simp [results, Try.results18, go_sem, k2]) rfl ⟨by rw [HK.out], ?_⟩
        exact ((HW.out.setCell (by simp) _).setCell (by simp) _).setCell (by simp) _
      · clear hlt hk
        go_wp2
        refine bodyPost_ret (v := .tuple #[.agg #[.int .i64 n, .int .i64 d, .int .i64 (runR n d r k)], .int .i64 (runS n d r k)]) (by simp [results, Try.results18, go_sem, k2]) rfl ⟨by rw [HK.out], ?_⟩
        exact ((HW.out.setCell (by simp) _).setCell (by simp) _).setCell (by simp) _
end Go.Proofs.Ytcjidlbpkijmnam
