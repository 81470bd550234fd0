/-
  The instruction that parts tell: the contract of the specification's l05Line.
-/
import Derived.Test.YtbcphgmcjickgaaDoorAsm3
import Derived.Test.YtbcphgmcjickgaaDoorSets
import Derived.Deep.DeepCutAuto
namespace Go.Proofs.YtbcphgmcjickgaaDoor
open Go.RowKit Plain Go.PlainAid
open Go.Lib (decDigits itoa indexByte)
set_option linter.unusedVariables false

theorem put2 {w : World} {k : Nat} {x y a b : Value} {t : TypeId} (h : w.heap[k]? = some (.cells #[a, b] t)) : ((w.setCell ⟨k, 0, none⟩ x).setCell ⟨k, 1, none⟩ y).heap[k]? = some (.cells #[x, y] t) := set1_row (set1_row h)
theorem eq_toList {s t : ByteArray} : (s.toList == t.toList) = true ↔ s = t := by
  constructor
  · intro h
    exact ba_list (by simpa [ByteArray.toList_eq] using h)
  · rintro rfl; simp

set_option maxRecDepth 100000 in
set_option maxHeartbeats 2000000 in
theorem line_many (g cap n : Nat) (s0 : ByteArray) (hn : 2 < n) (hn2 : n ≤ 10) (q : Option (Int × Int)) (hq : q = none) (w : World) (c0 : w.cell? ⟨g, 0, none⟩ = some (.string s0)) (hg : g < w.heap.size) :
    Calls Tryd.prog 43 #[.slice (some ⟨g, 0, none⟩) n cap] w fun e w' => ∃ f s : Int, e = .returned (.tuple #[.agg #[.int .i64 f, .int .i64 s], .bool q.isSome]) ∧ (∀ p, q = some p → p = (f, s)) ∧ Below w.heap.size w w' := by
  subst hq
  have HZ0 : Hid ((w.alloc (.cells #[.int .i64 0, .int .i64 0] 51)).heap[w.heap.size]? = some (.cells #[.int .i64 0, .int .i64 0] 51)) := heap_new w _
  have HB0 : Hid (Below w.heap.size w (w.alloc (.cells #[.int .i64 0, .int .i64 0] 51))) := (Below.refl _ _).alloc (Nat.le_refl _) _
  go_enter Tryd.func43, Tryd.ntmps43
  go_wp2_with fail
  refine (namesS _).mono ?_
  rintro e w1 ⟨rfl, hw1⟩
  have HN1 : Hid (∀ r, r < 18 → w1.cell? ⟨w.heap.size + 1, r, none⟩ = some (.string (nmA r))) := fun r hr => by
    have h := namesO_cell (w.alloc (.cells #[.int .i64 0, .int .i64 0] 51)) r hr
    have e : (w.alloc (.cells #[.int .i64 0, .int .i64 0] 51)).heap.size = w.heap.size + 1 := by simp
    rw [e] at h
    rw [hw1]
    exact h
  have HB1 : Hid (Below w.heap.size w w1) := by rw [hw1]; exact HB0.out.alloc HB0.out.size _
  have HZ1 : Hid (w1.heap[w.heap.size]? = some (.cells #[.int .i64 0, .int .i64 0] 51)) := by rw [hw1]; exact (Below.heap_alloc _ _ _ (row_lt HZ0.out)).trans HZ0.out
  have d0 : w1.cell? ⟨g, 0, none⟩ = some (.string s0) := (HB1.out.cell (p := ⟨g, 0, none⟩) hg).trans c0
  have hn' : (2 : Int) < (n : Int) := by omega
  clear hw1 c0 HZ0 HB0
  go_wp2
  go_loopg [5] 18 (fun gk i wr => ∃ j z : Nat, j + gk = 18 ∧ i = .int .i64 j ∧ wr = w1.drewN z)
  case atStart => exact ⟨0, 0, by omega, rfl, rfl⟩
  case round =>
    obtain ⟨j, z, hj, rfl, rfl⟩ := hrel
    by_cases hlt : j < 18
    · have cj := HN1.out j hlt
      have x0 : (0 : Int) ≤ (j : Int) := by omega
      have x1 : (j : Int) < 18 := by omega
      generalize nmA j = sj at *
      cases he : sj.toList == s0.toList
      · go_wp2
        go_quiet (fail)
        go_wp2
        go_roundg (gk - 1)
        case measure => omega
        case rel => exact ⟨j + 1, z + nq, by omega, by go_num, rfl⟩
      · go_wp2
        go_quiet (fail)
        go_wp2
        go_roundg (gk - 1)
        case measure => omega
        case rel => exact ⟨j + 1, z + nq, by omega, by go_num, rfl⟩
    · obtain rfl : j = 18 := by omega
      have kz := row2_cells (show (w1.drewN z).heap[w.heap.size]? = _ from HZ1.out)
      have HBz : Hid (Below w.heap.size w (w1.drewN z)) := below_drewN HB1.out _
      go_wp2
      refine bodyPost_ret (v := .tuple #[.agg #[.int .i64 0, .int .i64 0], .bool false]) (by simp [results, Tryd.results43, go_sem, kz]) rfl ⟨0, 0, rfl, (fun p hp => by cases hp), ?_⟩
      first | exact HBz.out | exact ((HBz.out.setCell (p := ⟨w.heap.size, 0, none⟩) (Nat.le_refl _) _).setCell (p := ⟨w.heap.size, 1, none⟩) (Nat.le_refl _) _)

set_option maxRecDepth 100000 in
set_option maxHeartbeats 4000000 in
theorem line_one (g cap : Nat) (s0 : ByteArray) (q : Option (Int × Int)) (hq : InsR [s0] q) (w : World) (c0 : w.cell? ⟨g, 0, none⟩ = some (.string s0)) (hg : g < w.heap.size) :
    Calls Tryd.prog 43 #[.slice (some ⟨g, 0, none⟩) 1 cap] w fun e w' => ∃ f s : Int, e = .returned (.tuple #[.agg #[.int .i64 f, .int .i64 s], .bool q.isSome]) ∧ (∀ p, q = some p → p = (f, s)) ∧ Below w.heap.size w w' := by
  have HQ : Hid (InsR [s0] q) := hq
  clear hq
  have HZ0 : Hid ((w.alloc (.cells #[.int .i64 0, .int .i64 0] 51)).heap[w.heap.size]? = some (.cells #[.int .i64 0, .int .i64 0] 51)) := heap_new w _
  have HB0 : Hid (Below w.heap.size w (w.alloc (.cells #[.int .i64 0, .int .i64 0] 51))) := (Below.refl _ _).alloc (Nat.le_refl _) _
  go_enter Tryd.func43, Tryd.ntmps43
  go_wp2_with fail
  refine (namesS _).mono ?_
  rintro e w1 ⟨rfl, hw1⟩
  have HN1 : Hid (∀ r, r < 18 → w1.cell? ⟨w.heap.size + 1, r, none⟩ = some (.string (nmA r))) := fun r hr => by
    have h := namesO_cell (w.alloc (.cells #[.int .i64 0, .int .i64 0] 51)) r hr
    have e : (w.alloc (.cells #[.int .i64 0, .int .i64 0] 51)).heap.size = w.heap.size + 1 := by simp
    rw [e] at h
    rw [hw1]
    exact h
  have HB1 : Hid (Below w.heap.size w w1) := by rw [hw1]; exact HB0.out.alloc HB0.out.size _
  have HZ1 : Hid (w1.heap[w.heap.size]? = some (.cells #[.int .i64 0, .int .i64 0] 51)) := by rw [hw1]; exact (Below.heap_alloc _ _ _ (row_lt HZ0.out)).trans HZ0.out
  have d0 : w1.cell? ⟨g, 0, none⟩ = some (.string s0) := (HB1.out.cell (p := ⟨g, 0, none⟩) hg).trans c0
  have s1 := row_lt HZ1.out
  clear hw1 c0 HZ0 HB0
  go_wp2
  go_loopg [5] 18 (fun gk i wr => ∃ j z : Nat, j + gk = 18 ∧ i = .int .i64 j ∧ Hid (∀ r, r < j → nmA r ≠ s0) ∧ wr = w1.drewN z)
  case atStart => exact ⟨0, 0, by omega, rfl, (show Hid _ from fun r h => by omega), rfl⟩
  case round =>
    obtain ⟨j, z, hj, rfl, HX, rfl⟩ := hrel
    by_cases hlt : j < 18
    · have cj := HN1.out j hlt
      have x0 : (0 : Int) ≤ (j : Int) := by omega
      have x1 : (j : Int) < 18 := by omega
      by_cases hs : nmA j = s0
      · obtain rfl : q = some ((j : Int), ((0 : Nat) : Int)) := insR_one HQ.out (insR_yes ⟨hlt, by omega, .inl ⟨by rw [hs], rfl⟩⟩)
        have he : ((nmA j).toList == s0.toList) = true := eq_toList.2 hs
        generalize nmA j = sj at *
        clear hs HX HQ
        go_upto_region 5 with fail
        go_cut [27] (fun v wc => v = .bool false ∧ Hid (wc.heap = w1.heap ∧ Below w.heap.size w wc))
        case first =>
          go_quiet (fail)
          go_wp2
          go_meet
          exact ⟨rfl, rfl, below_drewN (below_drewN HB1.out _) _⟩
        case rest =>
        rename World => w2
        obtain ⟨rfl, HW2⟩ := hcut
        have HZ2 : Hid (w2.heap[w.heap.size]? = some (.cells #[.int .i64 0, .int .i64 0] 51)) := by rw [HW2.out.1]; exact HZ1.out
        have HB2 : Hid (Below w.heap.size w w2) := HW2.out.2
        have s2 := row_lt HZ2.out
        have ne2 : w2.heap.size ≠ w.heap.size := by omega
        have kz := row2_cells HZ2.out
        have HBF : Hid (Below w.heap.size w (((w2.setCell ⟨w.heap.size, 0, none⟩ (.int .i64 (j : Int))).setCell ⟨w.heap.size, 1, none⟩ (.int .i64 0)).alloc (.cells #[.int .i64 (j : Int), .int .i64 0] 51)).drew) := (((HB2.out.setCell (p := ⟨w.heap.size, 0, none⟩) (Nat.le_refl _) _).setCell (p := ⟨w.heap.size, 1, none⟩) (Nat.le_refl _) _).alloc (by simp; omega) _).drew
        have kf := row2_cells ((Below.heap_alloc _ (.cells #[.int .i64 (j : Int), .int .i64 0] 51) _ (by simp; omega)).trans (put2 (x := .int .i64 (j : Int)) (y := .int .i64 0) HZ2.out))
        have HKF : Hid _ := kf
        clear HW2 kf
        go_wp2
        go_region
        go_wp2
        have kf := HKF.out
        refine bodyPost_ret (v := .tuple #[.agg #[.int .i64 (j : Int), .int .i64 0], .bool true]) (by simp [results, Tryd.results43, go_sem, kf]) rfl ⟨(j : Int), 0, rfl, (fun p hp => by cases hp; rfl), ?_⟩
        exact HBF.out
      · have he : ((nmA j).toList == s0.toList) = false := by
          cases e : (nmA j).toList == s0.toList with
          | false => rfl
          | true => exact absurd (eq_toList.1 e) hs
        have HX' : Hid (∀ r, r < j + 1 → nmA r ≠ s0) := fun r hr => by
          by_cases e : r = j
          · subst e; exact hs
          · exact HX.out r (by omega)
        generalize nmA j = sj at *
        clear hs HX
        go_wp2
        go_quiet (fail)
        go_wp2
        go_roundg (gk - 1)
        case measure => omega
        case rel => exact ⟨j + 1, z + nq, by omega, by go_num, HX', rfl⟩
    · obtain rfl : j = 18 := by omega
      obtain rfl : q = none := insR_one HQ.out (insR_no fun r v h => HX.out r h.1 (tells_head h).1)
      have kz := row2_cells (show (w1.drewN z).heap[w.heap.size]? = _ from HZ1.out)
      have HBz : Hid (Below w.heap.size w (w1.drewN z)) := below_drewN HB1.out _
      go_wp2
      refine bodyPost_ret (v := .tuple #[.agg #[.int .i64 0, .int .i64 0], .bool false]) (by simp [results, Tryd.results43, go_sem, kz]) rfl ⟨0, 0, rfl, (fun p hp => by cases hp), ?_⟩
      first | exact HBz.out | exact ((HBz.out.setCell (p := ⟨w.heap.size, 0, none⟩) (Nat.le_refl _) _).setCell (p := ⟨w.heap.size, 1, none⟩) (Nat.le_refl _) _)

set_option maxRecDepth 100000 in
set_option maxHeartbeats 4000000 in
theorem line_two (g cap : Nat) (s0 s1 : ByteArray) (hs1 : s1.size ≤ 1048576) (q : Option (Int × Int)) (hq : InsR [s0, s1] q) (w : World) (c0 : w.cell? ⟨g, 0, none⟩ = some (.string s0)) (c1 : w.cell? ⟨g, 1, none⟩ = some (.string s1)) (hg : g < w.heap.size) :
    Calls Tryd.prog 43 #[.slice (some ⟨g, 0, none⟩) 2 cap] w fun e w' => ∃ f s : Int, e = .returned (.tuple #[.agg #[.int .i64 f, .int .i64 s], .bool q.isSome]) ∧ (∀ p, q = some p → p = (f, s)) ∧ Below w.heap.size w w' := by
  have HQ : Hid (InsR [s0, s1] q) := hq
  clear hq
  have HZ0 : Hid ((w.alloc (.cells #[.int .i64 0, .int .i64 0] 51)).heap[w.heap.size]? = some (.cells #[.int .i64 0, .int .i64 0] 51)) := heap_new w _
  have HB0 : Hid (Below w.heap.size w (w.alloc (.cells #[.int .i64 0, .int .i64 0] 51))) := (Below.refl _ _).alloc (Nat.le_refl _) _
  go_enter Tryd.func43, Tryd.ntmps43
  go_wp2_with fail
  refine (namesS _).mono ?_
  rintro e w1 ⟨rfl, hw1⟩
  have HN1 : Hid (∀ r, r < 18 → w1.cell? ⟨w.heap.size + 1, r, none⟩ = some (.string (nmA r))) := fun r hr => by
    have h := namesO_cell (w.alloc (.cells #[.int .i64 0, .int .i64 0] 51)) r hr
    have e : (w.alloc (.cells #[.int .i64 0, .int .i64 0] 51)).heap.size = w.heap.size + 1 := by simp
    rw [e] at h
    rw [hw1]
    exact h
  have HB1 : Hid (Below w.heap.size w w1) := by rw [hw1]; exact HB0.out.alloc HB0.out.size _
  have HZ1 : Hid (w1.heap[w.heap.size]? = some (.cells #[.int .i64 0, .int .i64 0] 51)) := by rw [hw1]; exact (Below.heap_alloc _ _ _ (row_lt HZ0.out)).trans HZ0.out
  have d0 : w1.cell? ⟨g, 0, none⟩ = some (.string s0) := (HB1.out.cell (p := ⟨g, 0, none⟩) hg).trans c0
  have z1 := row_lt HZ1.out
  clear hw1 c0 HZ0 HB0
  go_wp2
  go_loopg [5] 18 (fun gk i wr => ∃ j z : Nat, j + gk = 18 ∧ i = .int .i64 j ∧ Hid (∀ r, r < j → nmA r ≠ s0) ∧ wr = w1.drewN z)
  case atStart => exact ⟨0, 0, by omega, rfl, (show Hid _ from fun r h => by omega), rfl⟩
  case round =>
    obtain ⟨j, z, hj, rfl, HX, rfl⟩ := hrel
    by_cases hlt : j < 18
    · have cj := HN1.out j hlt
      have x0 : (0 : Int) ≤ (j : Int) := by omega
      have x1 : (j : Int) < 18 := by omega
      by_cases hs : nmA j = s0
      · have HS : Hid (nmA j = s0) := hs
        have he : ((nmA j).toList == s0.toList) = true := eq_toList.2 hs
        obtain ⟨sj, hsj⟩ : ∃ sj, nmA j = sj := ⟨_, rfl⟩
        rw [hsj] at cj he
        clear hs HX hsj
        go_upto_region 5 with fail
        go_cut [27] (fun v wc => v = .bool false ∧ Hid (wc.heap = w1.heap ∧ Below w.heap.size w wc))
        case first =>
          go_quiet (fail)
          go_wp2
          go_meet
          exact ⟨rfl, rfl, below_drewN (below_drewN HB1.out _) _⟩
        case rest =>
        rename World => w2
        obtain ⟨rfl, HW2⟩ := hcut
        have HZ2 : Hid (w2.heap[w.heap.size]? = some (.cells #[.int .i64 0, .int .i64 0] 51)) := by rw [HW2.out.1]; exact HZ1.out
        have HB2 : Hid (Below w.heap.size w w2) := HW2.out.2
        have s2 := row_lt HZ2.out
        have ne2 : w2.heap.size ≠ w.heap.size := by omega
        have HX2 : Hid ((w2.alloc (.cells #[.int .i64 (j : Int), .int .i64 0] 51)).heap[w2.heap.size]? = some (.cells #[.int .i64 (j : Int), .int .i64 0] 51)) := heap_new w2 _
        have HZ2' : Hid ((w2.alloc (.cells #[.int .i64 (j : Int), .int .i64 0] 51)).heap[w.heap.size]? = some (.cells #[.int .i64 0, .int .i64 0] 51)) := (Below.heap_alloc _ _ _ s2).trans HZ2.out
        have HB2' : Hid (Below w.heap.size w (w2.alloc (.cells #[.int .i64 (j : Int), .int .i64 0] 51))) := HB2.out.alloc HB2.out.size _
        have e1 : (w2.alloc (.cells #[.int .i64 (j : Int), .int .i64 0] 51)).cell? ⟨g, 1, none⟩ = some (.string s1) := (HB2'.out.cell (p := ⟨g, 1, none⟩) hg).trans c1
        have e1' : w2.cell? ⟨g, 1, none⟩ = some (.string s1) := (HB2.out.cell (p := ⟨g, 1, none⟩) hg).trans c1
        clear HW2
        go_wp2_with fail
        refine (rd7 s1 hs1 _).mono ?_
        rintro e w3 ⟨m, rfl, hrd, hb3⟩
        have HX3 : Hid (w3.heap[w2.heap.size]? = some (.cells #[.int .i64 (j : Int), .int .i64 0] 51)) := row_on HX2.out hb3
        have HZ3 : Hid (w3.heap[w.heap.size]? = some (.cells #[.int .i64 0, .int .i64 0] 51)) := row_on HZ2'.out hb3
        have HB3 : Hid (Below w.heap.size w w3) := bel_on (Nat.le_refl _) HB2'.out hb3
        have HRd : Hid (Rd s1.data.toList m) := hrd
        clear hb3 hrd HX2 HZ2' HB2' e1 e1' HZ2 HB2
        cases m with
        | none =>
          obtain rfl : q = none := insR_one HQ.out (insR_no fun r' v h => by
            rcases h.2.2 with ⟨e, _⟩ | ⟨d, e, hd⟩
            · simp at e
            · have e2 : s1 = d := by simpa using (List.cons.inj e).2
              subst e2
              exact HRd.out.2 rfl v (by have := h.2.1; omega) hd)
          unfold encR
          have HX4 : Hid ((w3.setCell ⟨w2.heap.size, 1, none⟩ (.int .i64 0)).heap[w2.heap.size]? = some (.cells #[.int .i64 (j : Int), .int .i64 0] 51)) := set1_row HX3.out
          have HZ4 : Hid ((w3.setCell ⟨w2.heap.size, 1, none⟩ (.int .i64 0)).heap[w.heap.size]? = some (.cells #[.int .i64 0, .int .i64 0] 51)) := set_other HZ3.out (fun e => ne2 e.symm)
          have HB4 : Hid (Below w.heap.size w (w3.setCell ⟨w2.heap.size, 1, none⟩ (.int .i64 0))) := HB3.out.setCell (p := ⟨w2.heap.size, 1, none⟩) (by show _ ≤ w2.heap.size; omega) _
          have kx := row2_cells HX4.out
          have kz := row2_cells HZ4.out
          have k3 := row2_cells HX3.out
          generalize hw4 : w3.setCell ⟨w2.heap.size, 1, none⟩ (.int .i64 0) = w4 at *
          have HKF : Hid _ := row2_cells (put2 (x := .int .i64 (j : Int)) (y := .int .i64 0) HZ4.out)
          have HBF : Hid (Below w.heap.size w ((w4.setCell ⟨w.heap.size, 0, none⟩ (.int .i64 (j : Int))).setCell ⟨w.heap.size, 1, none⟩ (.int .i64 0)).drew) := ((HB4.out.setCell (p := ⟨w.heap.size, 0, none⟩) (Nat.le_refl _) _).setCell (p := ⟨w.heap.size, 1, none⟩) (Nat.le_refl _) _).drew
          go_wp2
          go_region
          go_wp2
          have kf := HKF.out
          refine bodyPost_ret (v := .tuple #[.agg #[.int .i64 (j : Int), .int .i64 0], .bool false]) (by simp [results, Tryd.results43, go_sem, kf]) rfl ⟨(j : Int), 0, rfl, (fun p hp => by cases hp), ?_⟩
          exact HBF.out
        | some m =>
          have hm := HRd.out.1 m rfl
          unfold encR
          by_cases h255 : m ≤ 255
          · obtain rfl : q = some ((j : Int), (m : Int)) := insR_one HQ.out (insR_yes ⟨hlt, h255, .inr ⟨s1, by rw [HS.out], hm.2⟩⟩)
            have h255' : (m : Int) ≤ 255 := by omega
            clear hm
            have HX4 : Hid ((w3.setCell ⟨w2.heap.size, 1, none⟩ (.int .i64 (m : Int))).heap[w2.heap.size]? = some (.cells #[.int .i64 (j : Int), .int .i64 (m : Int)] 51)) := set1_row HX3.out
            have HZ4 : Hid ((w3.setCell ⟨w2.heap.size, 1, none⟩ (.int .i64 (m : Int))).heap[w.heap.size]? = some (.cells #[.int .i64 0, .int .i64 0] 51)) := set_other HZ3.out (fun e => ne2 e.symm)
            have HB4 : Hid (Below w.heap.size w (w3.setCell ⟨w2.heap.size, 1, none⟩ (.int .i64 (m : Int)))) := HB3.out.setCell (p := ⟨w2.heap.size, 1, none⟩) (by show _ ≤ w2.heap.size; omega) _
            have kx := row2_cells HX4.out
            have kz := row2_cells HZ4.out
            have k3 := row2_cells HX3.out
            generalize hw4 : w3.setCell ⟨w2.heap.size, 1, none⟩ (.int .i64 (m : Int)) = w4 at *
            have HKF : Hid _ := row2_cells (put2 (x := .int .i64 (j : Int)) (y := .int .i64 (m : Int)) HZ4.out)
            have HBF : Hid (Below w.heap.size w ((w4.setCell ⟨w.heap.size, 0, none⟩ (.int .i64 (j : Int))).setCell ⟨w.heap.size, 1, none⟩ (.int .i64 (m : Int))).drew) := ((HB4.out.setCell (p := ⟨w.heap.size, 0, none⟩) (Nat.le_refl _) _).setCell (p := ⟨w.heap.size, 1, none⟩) (Nat.le_refl _) _).drew
            go_wp2
            go_region
            go_wp2
            have kf := HKF.out
            refine bodyPost_ret (v := .tuple #[.agg #[.int .i64 (j : Int), .int .i64 (m : Int)], .bool true]) (by simp [results, Tryd.results43, go_sem, kf]) rfl ⟨(j : Int), (m : Int), rfl, (fun p hp => by cases hp; rfl), ?_⟩
            exact HBF.out
          · obtain rfl : q = none := insR_one HQ.out (insR_no fun r' v h => by
              rcases h.2.2 with ⟨e, _⟩ | ⟨d, e, hd⟩
              · simp at e
              · have e2 : s1 = d := by simpa using (List.cons.inj e).2
                subst e2
                have := dec_inj (hd.trans hm.2.symm)
                have := h.2.1
                omega)
            have h255' : ¬ (m : Int) ≤ 255 := by omega
            clear hm
            have HX4 : Hid ((w3.setCell ⟨w2.heap.size, 1, none⟩ (.int .i64 (m : Int))).heap[w2.heap.size]? = some (.cells #[.int .i64 (j : Int), .int .i64 (m : Int)] 51)) := set1_row HX3.out
            have HZ4 : Hid ((w3.setCell ⟨w2.heap.size, 1, none⟩ (.int .i64 (m : Int))).heap[w.heap.size]? = some (.cells #[.int .i64 0, .int .i64 0] 51)) := set_other HZ3.out (fun e => ne2 e.symm)
            have HB4 : Hid (Below w.heap.size w (w3.setCell ⟨w2.heap.size, 1, none⟩ (.int .i64 (m : Int)))) := HB3.out.setCell (p := ⟨w2.heap.size, 1, none⟩) (by show _ ≤ w2.heap.size; omega) _
            have kx := row2_cells HX4.out
            have kz := row2_cells HZ4.out
            have k3 := row2_cells HX3.out
            generalize hw4 : w3.setCell ⟨w2.heap.size, 1, none⟩ (.int .i64 (m : Int)) = w4 at *
            have HKF : Hid _ := row2_cells (put2 (x := .int .i64 (j : Int)) (y := .int .i64 (m : Int)) HZ4.out)
            have HBF : Hid (Below w.heap.size w ((w4.setCell ⟨w.heap.size, 0, none⟩ (.int .i64 (j : Int))).setCell ⟨w.heap.size, 1, none⟩ (.int .i64 (m : Int))).drew) := ((HB4.out.setCell (p := ⟨w.heap.size, 0, none⟩) (Nat.le_refl _) _).setCell (p := ⟨w.heap.size, 1, none⟩) (Nat.le_refl _) _).drew
            go_wp2
            go_region
            go_wp2
            have kf := HKF.out
            refine bodyPost_ret (v := .tuple #[.agg #[.int .i64 (j : Int), .int .i64 (m : Int)], .bool false]) (by simp [results, Tryd.results43, go_sem, kf]; omega) rfl ⟨(j : Int), (m : Int), rfl, (fun p hp => by cases hp), ?_⟩
            exact HBF.out
      · have he : ((nmA j).toList == s0.toList) = false := by
          cases e : (nmA j).toList == s0.toList with
          | false => rfl
          | true => exact absurd (eq_toList.1 e) hs
        have HX' : Hid (∀ r, r < j + 1 → nmA r ≠ s0) := fun r hr => by
          by_cases e : r = j
          · subst e; exact hs
          · exact HX.out r (by omega)
        generalize nmA j = sj at *
        clear hs HX
        go_wp2
        go_quiet (fail)
        go_wp2
        go_roundg (gk - 1)
        case measure => omega
        case rel => exact ⟨j + 1, z + nq, by omega, by go_num, HX', rfl⟩
    · obtain rfl : j = 18 := by omega
      obtain rfl : q = none := insR_one HQ.out (insR_no fun r v h => HX.out r h.1 (tells_head h).1)
      have kz := row2_cells (show (w1.drewN z).heap[w.heap.size]? = _ from HZ1.out)
      have HBz : Hid (Below w.heap.size w (w1.drewN z)) := below_drewN HB1.out _
      go_wp2
      refine bodyPost_ret (v := .tuple #[.agg #[.int .i64 0, .int .i64 0], .bool false]) (by simp [results, Tryd.results43, go_sem, kz]) rfl ⟨0, 0, rfl, (fun p hp => by cases hp), ?_⟩
      first | exact HBz.out | exact ((HBz.out.setCell (p := ⟨w.heap.size, 0, none⟩) (Nat.le_refl _) _).setCell (p := ⟨w.heap.size, 1, none⟩) (Nat.le_refl _) _)

theorem lineS (Bv : Nat) (L : List ByteArray) (v : Value) (hL : ∀ x ∈ L, x.size ≤ 1048576) (h0 : 0 < L.length) (hn : L.length ≤ 10) (q : Option (Int × Int)) (hq : InsR L q) (w : World) (hown : w.ownsRow Bv 9 1 v L.length (strV L)) :
    Calls Tryd.prog 43 #[v] w fun e w' => ∃ f s : Int, e = .returned (.tuple #[.agg #[.int .i64 f, .int .i64 s], .bool q.isSome]) ∧ (∀ p, q = some p → p = (f, s)) ∧ Below w.heap.size w w' := by
  obtain ⟨a, cap, rfl, hc⟩ := own_strs hown
  obtain ⟨g, rfl, hg, hcell⟩ := hc h0
  match L, hL, hn, hq, hcell, h0 with
  | [], hL, hn, hq, hcell, h0 => simp at h0
  | [s0], hL, hn, hq, hcell, h0 => exact line_one g cap s0 q hq w (hcell 0 s0 rfl) hg
  | [s0, s1], hL, hn, hq, hcell, h0 => exact line_two g cap s0 s1 (hL s1 (by simp)) q hq w (hcell 0 s0 rfl) (hcell 1 s1 rfl) hg
  | s0 :: s1 :: s2 :: rest, hL, hn, hq, hcell, h0 =>
    exact line_many g cap (s0 :: s1 :: s2 :: rest).length s0 (by simp) hn q (insR_one hq (insR_no fun r v h => by have := (tells_head h).2; simp at this)) w (hcell 0 s0 rfl) hg
end Go.Proofs.YtbcphgmcjickgaaDoor
