/-
  LoadCell, StoreCell, CellsOf, ClearCells, ArenaNew of the program: contracts.
-/
import Derived.Test.YthnocibkgpofnaaCells6
namespace Go.Proofs.Ythnocibkgpofnaa
open Go.RowKit Go.PlainAid
set_option linter.unusedVariables false

/-- whether there is a cell at of a region -/
def ldB (n : Nat) (f s p : Int) : Bool := decide (0 ≤ p ∧ p < (cutN n f s : Int))
def ldX (l : List Int) (f s p : Int) : Int := if 0 ≤ p ∧ p < (cutN l.length f s : Int) then l.getD (f + p).toNat 0 else 0
def stL (l : List Int) (f s p x : Int) : List Int := if 0 ≤ p ∧ p < (cutN l.length f s : Int) then l.set (f + p).toNat (x % 65536) else l
/-- the cells of a region that there are -/
def ceL (l : List Int) (f s : Int) : List Int := (l.drop f.toNat).take (cutN l.length f s)
/-- all of these 0 -/
def clL (l : List Int) (f s : Int) : List Int := l.take f.toNat ++ (List.replicate (cutN l.length f s) 0 ++ l.drop (f.toNat + cutN l.length f s))

theorem arena_start (w : World) (u x y : Value) (t r : TypeId) :
    ((w.alloc (.cells #[u] t)).alloc (.cells #[x, y] r)).heap[w.heap.size]? = some (.cells #[u] t) ∧ ((w.alloc (.cells #[u] t)).alloc (.cells #[x, y] r)).heap[w.heap.size + 1]? = some (.cells #[x, y] r) ∧ Below w.heap.size w ((w.alloc (.cells #[u] t)).alloc (.cells #[x, y] r)) := by
  refine ⟨(Below.heap_alloc _ _ _ (by simp)).trans (heap_new w _), ?_, ((Below.refl _ _).alloc (Nat.le_refl _) _).alloc (by simp) _⟩
  have := heap_new (w.alloc (.cells #[u] t)) (.cells #[x, y] r)
  simpa using this

set_option maxRecDepth 100000 in
set_option maxHeartbeats 400000 in
theorem loadI (a : Option Addr) (l : List Int) (n cap : Nat) (f s p : Int) (hl : l.length = n) (hn : n ≤ 1048576) (hcap : n ≤ cap) (w : World) (hr : Rd w a l) :
    Calls Try.prog 98 #[.agg #[.slice a n cap], .agg #[.int .i64 f, .int .i64 s], .int .i64 p] w fun e w' => e = .returned (.tuple #[.int .i64 (ldX l f s p), .bool (ldB n f s p)]) ∧ Below w.heap.size w w' := by
  obtain ⟨hA, hR, hW⟩ := arena_start w (.slice a n cap) (.int .i64 f) (.int .i64 s) 34 36
  have HA : Hid (_ = _) := hA
  have HR : Hid (_ = _) := hR
  have HW : Hid (Below _ _ _) := hW
  have HRd : Hid (Rd w a l) := hr
  have HL : Hid (l.length = n) := hl
  clear hA hR hW hr hl
  go_enter Try.func98, Try.ntmps98
  go_wp2_with fail
  refine (cutI a n cap f s hn hcap _).mono ?_
  rintro e w1 ⟨v, rfl, ⟨a', rfl, ha⟩, hb1⟩
  have HW1 : Hid (Below w.heap.size w w1) := HW.out.trans (hb1.mono HW.out.size)
  clear hb1 HW HA HR
  obtain ⟨k, HK⟩ : ∃ k, Hid (cutN n f s = k) := ⟨_, rfl⟩
  have hkn : k ≤ 1048576 := by have := cutN_le n f s; have := HK.out; omega
  rw [HK.out] at ha ⊢
  by_cases hp : 0 ≤ p ∧ p < (k : Int)
  · obtain ⟨hp0, hp1⟩ := hp
    obtain ⟨j, rfl⟩ := Int.eq_ofNat_of_zero_le hp0
    have hd : decide ((0 : Int) ≤ (j : Int) ∧ (j : Int) ≤ (k : Int) - 1) = true := decide_eq_true ⟨by omega, by omega⟩
    obtain ⟨f0, f1, _, _⟩ := cutN_in (n := n) (f := f) (s := s) (by have := HK.out; omega)
    obtain ⟨fn, rfl⟩ := Int.eq_ofNat_of_zero_le f0
    have hfn : fn + j < l.length := by have := HK.out; have := HL.out; simp at f1; omega
    obtain ⟨g, off, rfl, hc⟩ := HRd.out (by omega)
    have hcell := (HW1.out.cell (p := ⟨g, off + (fn + j), none⟩) (World.block_lt_of_cell? w ⟨g, off + (fn + j), none⟩ (hc _ hfn))).trans (hc (fn + j) hfn)
    obtain rfl := ha (by omega)
    have HX : Hid (ldX l (fn : Int) s (j : Int) = l[fn + j] ∧ ldB n (fn : Int) s (j : Int) = true) := by
      have e1 := HK.out
      have e2 := HL.out
      refine ⟨?_, decide_eq_true ⟨by omega, by omega⟩⟩
      unfold ldX
      rw [if_pos ⟨by omega, by rw [e2, e1]; omega⟩, show ((fn : Int) + (j : Int)).toNat = fn + j by omega]
      simp [hfn]
    generalize l[fn + j] = x at hcell HX
    clear ha hc HRd f1 hfn
    rw [← Nat.add_assoc] at hcell
    simp only [Option.map_some, Int.toNat_natCast, add_at]
    go_wp2_with fail
    refine (placeI _ k k j true hd hkn _).mono ?_
    rintro e w2 ⟨rfl, hb2⟩
    have HW2 : Hid (Below w.heap.size w w2) := HW1.out.trans (hb2.mono HW1.out.size)
    have hcell2 := (hb2.cell (p := ⟨g, off + fn + j, none⟩) (World.block_lt_of_cell? w1 ⟨g, off + fn + j, none⟩ hcell)).trans hcell
    clear hb2 HW1 hcell hd
    go_wp2
    go_ret2
    exact ⟨by rw [HX.out.1, HX.out.2]; rfl, HW2.out⟩
  · have hd : decide ((0 : Int) ≤ p ∧ p ≤ (k : Int) - 1) = false := decide_eq_false (fun h => hp ⟨h.1, by omega⟩)
    have HX : Hid (ldX l f s p = 0 ∧ ldB n f s p = false) := by
      have e1 := HK.out
      have e2 := HL.out
      refine ⟨?_, decide_eq_false (by rw [e1]; exact hp)⟩
      unfold ldX
      rw [if_neg (by rw [e2, e1]; exact hp)]
    go_wp2_with fail
    refine (placeI _ k k p false hd hkn _).mono ?_
    rintro e w2 ⟨rfl, hb2⟩
    have HW2 : Hid (Below w.heap.size w w2) := HW1.out.trans (hb2.mono HW1.out.size)
    clear hb2 HW1 hd
    go_wp2
    go_ret2
    exact ⟨by rw [HX.out.1, HX.out.2]; rfl, HW2.out⟩

/-- StoreCell's road up to the cut: the copy lies in a block of its own, the argument's box points to it -/
theorem set1_row {w : World} {k i : Nat} {cs : Array Value} {t : TypeId} {x : Value} (h : w.heap[k]? = some (.cells cs t)) : (w.setCell ⟨k, i, none⟩ x).heap[k]? = some (.cells (cs.setIfInBounds i x) t) := by
  simp [World.setCell, Array.getElem?_modify, h]
theorem set_other {w : World} {k j i : Nat} {x : Value} {o : Obj} (h : w.heap[j]? = some o) (hj : j ≠ k) : (w.setCell ⟨k, i, none⟩ x).heap[j]? = some o :=
  (Below.heap_setCell _ _ _ _ hj).trans h
theorem size_set (w : World) (p : Addr) (x : Value) : (w.setCell p x).heap.size = w.heap.size := by simp

theorem arena3_start (w : World) (u x y z : Value) (t r : TypeId) :
    (((w.alloc (.cells #[u] t)).alloc (.cells #[x, y] r)).alloc (.cells #[z] t)).heap[w.heap.size]? = some (.cells #[u] t) ∧ (((w.alloc (.cells #[u] t)).alloc (.cells #[x, y] r)).alloc (.cells #[z] t)).heap[w.heap.size + 1]? = some (.cells #[x, y] r) ∧ (((w.alloc (.cells #[u] t)).alloc (.cells #[x, y] r)).alloc (.cells #[z] t)).heap[w.heap.size + 2]? = some (.cells #[z] t) ∧ Below w.heap.size w (((w.alloc (.cells #[u] t)).alloc (.cells #[x, y] r)).alloc (.cells #[z] t)) ∧ (((w.alloc (.cells #[u] t)).alloc (.cells #[x, y] r)).alloc (.cells #[z] t)).heap.size = w.heap.size + 3 := by
  obtain ⟨h1, h2, h3⟩ := arena_start w u x y t r
  refine ⟨(Below.heap_alloc _ _ _ (row_lt h1)).trans h1, (Below.heap_alloc _ _ _ (row_lt h2)).trans h2, ?_, h3.alloc h3.size _, by simp⟩
  have := heap_new ((w.alloc (.cells #[u] t)).alloc (.cells #[x, y] r)) (.cells #[z] t)
  simpa using this

theorem stL_yes {l : List Int} {fn j n k : Nat} {s x : Int} (hl : l.length = n) (hk : cutN n (fn : Int) s = k) (hj : j < k) : stL l (fn : Int) s (j : Int) x = l.set (fn + j) (x % 65536) ∧ ldB n (fn : Int) s (j : Int) = true := by
  subst hl
  refine ⟨?_, decide_eq_true ⟨by omega, by omega⟩⟩
  unfold stL
  rw [if_pos ⟨by omega, by rw [hk]; omega⟩, show ((fn : Int) + (j : Int)).toNat = fn + j by omega]
theorem stL_no {l : List Int} {n k : Nat} {f s p x : Int} (hl : l.length = n) (hk : cutN n f s = k) (hp : ¬ (0 ≤ p ∧ p < (k : Int))) : stL l f s p x = l ∧ ldB n f s p = false := by
  subst hl
  refine ⟨?_, decide_eq_false (by rw [hk]; exact hp)⟩
  unfold stL
  rw [if_neg (by rw [hk]; exact hp)]

set_option maxRecDepth 100000 in
set_option maxHeartbeats 1000000 in
theorem storeI (a : Option Addr) (l : List Int) (n cap : Nat) (f s p x : Int) (hl : l.length = n) (hn : n ≤ 1048576) (hcap : n ≤ cap) (w : World) (hr : Rd w a l) :
    Calls Try.prog 99 #[.agg #[.slice a n cap], .agg #[.int .i64 f, .int .i64 s], .int .i64 p, .int .i64 x] w fun e w' => ∃ g, e = .returned (.tuple #[.agg #[.slice (some ⟨g, 0, none⟩) n n], .bool (ldB n f s p)]) ∧ w.heap.size ≤ g ∧ RowAt w' g (stL l f s p x) ∧ Below w.heap.size w w' := by
  obtain ⟨hA, hR, hZ, hW, hS⟩ := arena3_start w (.slice a n cap) (.int .i64 f) (.int .i64 s) (.slice none 0 0) 34 36
  have HA : Hid (_ = _) := hA
  have HR : Hid (_ = _) := hR
  have HZ : Hid (_ = _) := hZ
  have HW : Hid (Below _ _ _) := hW
  have HS : Hid (_ = _) := hS
  have HRd : Hid (Rd w a l) := hr
  have HL : Hid (l.length = n) := hl
  clear hA hR hZ hW hr hl hS
  go_enter Try.func99, Try.ntmps99
  go_wp2_with fail
  refine (copyA a l n cap HL.out hn _ (HRd.out.keep HW.out (Nat.le_refl _))).mono ?_
  rintro e w1 ⟨rfl, hrow, hb1⟩
  have hS1 := hb1.size
  rw [HS.out] at hrow hb1 hS1 ⊢
  simp only [Nat.add_assoc, Nat.reduceAdd] at hrow ⊢
  have hlt5 := hrow.lt
  have hA1 := row_after HA.out hb1 (by omega)
  have HR1 : Hid (_ = _) := row_after HR.out hb1 (by omega)
  have HZ1 : Hid (_ = _) := row_after HZ.out hb1 (by omega)
  have HW1 : Hid (Below w.heap.size w w1) := HW.out.trans (hb1.mono (by omega))
  have HROW : Hid (RowAt w1 (w.heap.size + 5) l) := hrow
  have k0 := row1_cells hA1
  have HA1 : Hid (_ = _) := hA1
  have HA2 : Hid ((w1.setCell ⟨w.heap.size, 0, none⟩ (.slice (some ⟨w.heap.size + 5, 0, none⟩) n n)).heap[w.heap.size]? = some (.cells #[.slice (some ⟨w.heap.size + 5, 0, none⟩) n n] 34)) := set1_row hA1
  have HR2 : Hid ((w1.setCell ⟨w.heap.size, 0, none⟩ (.slice (some ⟨w.heap.size + 5, 0, none⟩) n n)).heap[w.heap.size + 1]? = _) := set_other HR1.out (by omega)
  have HZ2 : Hid ((w1.setCell ⟨w.heap.size, 0, none⟩ (.slice (some ⟨w.heap.size + 5, 0, none⟩) n n)).heap[w.heap.size + 2]? = _) := set_other HZ1.out (by omega)
  have HROW2 : Hid (RowAt (w1.setCell ⟨w.heap.size, 0, none⟩ (.slice (some ⟨w.heap.size + 5, 0, none⟩) n n)) (w.heap.size + 5) l) := set_other HROW.out (by omega)
  have HW2 : Hid (Below w.heap.size w (w1.setCell ⟨w.heap.size, 0, none⟩ (.slice (some ⟨w.heap.size + 5, 0, none⟩) n n))) := HW1.out.setCell (Nat.le_refl _) _
  have HS2 : Hid (w.heap.size + 5 < (w1.setCell ⟨w.heap.size, 0, none⟩ (.slice (some ⟨w.heap.size + 5, 0, none⟩) n n)).heap.size) := HROW2.out.lt
  have r1 := row2_cells HR1.out
  clear hA1 hrow hb1 HA HR HZ HW HS HRd HR1 HZ1 HROW HW1 HA1
  go_wp2_with fail
  refine (cutI (some ⟨w.heap.size + 5, 0, none⟩) n n f s hn (Nat.le_refl _) _).mono ?_
  rintro e w3 ⟨v, rfl, ⟨a', rfl, ha⟩, hb3⟩
  have HA3 : Hid (_ = _) := row_after HA2.out hb3 (by have := HS2.out; omega)
  have HZ3 : Hid (_ = _) := row_after HZ2.out hb3 (by have := HS2.out; omega)
  have HROW3 : Hid (RowAt w3 (w.heap.size + 5) l) := HROW2.out.keep hb3 HS2.out
  have HW3 : Hid (Below w.heap.size w w3) := HW2.out.trans (hb3.mono HW2.out.size)
  clear hb3 HA2 HR2 HZ2 HROW2 HW2 HS2 r1 k0
  obtain ⟨k, HK⟩ : ∃ k, Hid (cutN n f s = k) := ⟨_, rfl⟩
  have hkn : k ≤ 1048576 := by have := cutN_le n f s; have := HK.out; omega
  rw [HK.out] at ha ⊢
  by_cases hp : 0 ≤ p ∧ p < (k : Int)
  · obtain ⟨hp0, hp1⟩ := hp
    obtain ⟨j, rfl⟩ := Int.eq_ofNat_of_zero_le hp0
    have hd : decide ((0 : Int) ≤ (j : Int) ∧ (j : Int) ≤ (k : Int) - 1) = true := decide_eq_true ⟨by omega, by omega⟩
    obtain ⟨f0, f1, _, _⟩ := cutN_in (n := n) (f := f) (s := s) (by have := HK.out; omega)
    obtain ⟨fn, rfl⟩ := Int.eq_ofNat_of_zero_le f0
    have hfn : fn + j < l.length := by have := HK.out; have := HL.out; simp at f1; omega
    obtain rfl := ha (by omega)
    have HX := stL_yes (x := x) HL.out HK.out (show j < k by omega)
    have HX' : Hid (_ ∧ _) := HX
    clear HX
    clear ha f1
    simp only [Option.map_some, Int.toNat_natCast, add_at, Nat.zero_add]
    go_wp2_with fail
    refine (placeI _ k k j true hd hkn _).mono ?_
    rintro e w4 ⟨rfl, hb4⟩
    have HROW4 : Hid (RowAt w4 (w.heap.size + 5) l) := HROW3.out.keep hb4 HROW3.out.lt
    have HA4 : Hid (_ = _) := row_after HA3.out hb4 (row_lt HA3.out)
    have HZ4 : Hid (_ = _) := row_after HZ3.out hb4 (row_lt HZ3.out)
    have HW4 : Hid (Below w.heap.size w w4) := HW3.out.trans (hb4.mono HW3.out.size)
    clear hb4 HW3 hd HROW3 HA3 HZ3
    go_wp2_with fail
    refine (wordI x _).mono ?_
    rintro e w5 ⟨rfl, rfl⟩
    have c1 := HROW4.out.cell (fn + j) hfn
    have c2 := HROW4.out.free (fn + j)
    have c3 := row1_cells HA4.out
    have c4 := row1_cells HZ4.out
    generalize l[fn + j] = old at c1
    go_wp2
    refine bodyPost_ret (v := .tuple #[.agg #[.slice (some ⟨w.heap.size + 5, 0, none⟩) n n], .bool true]) (by simp [results, Try.results99, go_sem, c4]) rfl ⟨w.heap.size + 5, by rw [HX'.out.2], by omega, ?_, ?_⟩
    · rw [HX'.out.1]
      exact set_other (HROW4.out.set _ _) (by omega)
    · exact (HW4.out.setCell (by simp) _).setCell (by simp <;> omega) _
  · have hd : decide ((0 : Int) ≤ p ∧ p ≤ (k : Int) - 1) = false := decide_eq_false (fun h => hp ⟨h.1, by omega⟩)
    have HX := stL_no (x := x) HL.out HK.out hp
    have HX' : Hid (_ ∧ _) := HX
    clear HX
    go_wp2_with fail
    refine (placeI _ k k p false hd hkn _).mono ?_
    rintro e w4 ⟨rfl, hb4⟩
    have HROW4 : Hid (RowAt w4 (w.heap.size + 5) l) := HROW3.out.keep hb4 HROW3.out.lt
    have HA4 : Hid (_ = _) := row_after HA3.out hb4 (row_lt HA3.out)
    have HZ4 : Hid (_ = _) := row_after HZ3.out hb4 (row_lt HZ3.out)
    have HW4 : Hid (Below w.heap.size w w4) := HW3.out.trans (hb4.mono HW3.out.size)
    clear hb4 HW3 hd HROW3 HA3 HZ3
    have c3 := row1_cells HA4.out
    have c4 := row1_cells HZ4.out
    go_wp2
    refine bodyPost_ret (v := .tuple #[.agg #[.slice (some ⟨w.heap.size + 5, 0, none⟩) n n], .bool false]) (by simp [results, Try.results99, go_sem, c4]) rfl ⟨w.heap.size + 5, by rw [HX'.out.2], by omega, ?_, ?_⟩
    · rw [HX'.out.1]
      exact set_other HROW4.out (by omega)
    · exact HW4.out.setCell (by simp <;> omega) _

theorem made_ints (n : Nat) : madeCells #[.int .i64 0] n = (intsV (List.replicate n 0)).toArray := by
  apply Array.ext
  · simp [madeCells, intsV]
  · intro j h1 h2
    simp [madeCells, intsV, Nat.mod_one]

/-- 64 cells of 0 -/
def z64 : List Int := List.replicate 64 0
theorem make64 (w : World) : (Instr.makeSlice 23 (.int .i64 64) (.int .i64 64)).run Try.prog w = .ok (.slice (some ⟨w.heap.size, 0, none⟩) 64 64) (w.alloc (.cells (intsV z64).toArray 3)) := by
  have h := run_make_row' (P := Try.prog) 23 3 (.int .i64 0) 8 Try.underlying23 info3 rfl .i64 .i64 64 (by omega) (by omega) w
  rw [made_ints] at h
  exact h

theorem row_alloc2 (w : World) (o : Obj) (l : List Int) : RowAt ((w.alloc o).alloc (.cells (intsV l).toArray 3)) (w.heap.size + 1) l := by
  have := heap_new (w.alloc o) (.cells (intsV l).toArray 3)
  simpa [RowAt] using this

theorem newI (w : World) : Calls Try.prog 23 #[] w fun e w' => ∃ g, e = .returned (.agg #[.slice (some ⟨g, 0, none⟩) 64 64]) ∧ w.heap.size ≤ g ∧ RowAt w' g z64 ∧ Below w.heap.size w w' := by
  have hmk := make64
  go_enter Try.func23, Try.ntmps23
  go_wp2
  refine bodyPost_ret (v := .agg #[.slice (some ⟨w.heap.size + 1, 0, none⟩) 64 64]) (by simp [results, Try.results23, go_sem]) rfl ⟨w.heap.size + 1, rfl, by omega, row_alloc2 w _ z64, ?_⟩
  exact ((Below.refl _ _).alloc (Nat.le_refl _) _).alloc (by simp) _

end Go.Proofs.Ythnocibkgpofnaa
