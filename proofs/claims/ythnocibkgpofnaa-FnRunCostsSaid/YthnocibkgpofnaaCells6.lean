/-
  Cells: what is cut, copied, cleared: the contracts of the program's own helpers.
-/
import Derived.Test.YthnocibkgpofnaaInts
namespace Go.Proofs.Ythnocibkgpofnaa
open Go.RowKit Go.PlainAid
set_option linter.unusedVariables false

theorem holdsI (l m n : Int) (b : Bool) (hb : decide (l ≤ n ∧ n ≤ m) = b) (w : World) : Calls Try.prog 76 #[.agg #[.int .i64 l, .int .i64 m], .int .i64 n] w fun e w' => e = .returned (.bool b) ∧ Below w.heap.size w w' := by
  go_enter Try.func76, Try.ntmps76
  by_cases h1 : l ≤ n
  · by_cases h2 : n ≤ m
    · go_wp2
      go_ret
      exact ⟨by rw [← hb, decide_eq_true ⟨h1, h2⟩]; rfl, (Below.refl _ _).alloc (Nat.le_refl _) _⟩
    · go_wp2
      go_ret
      exact ⟨by rw [← hb, decide_eq_false (fun h => by omega)]; rfl, (Below.refl _ _).alloc (Nat.le_refl _) _⟩
  · go_wp2
    go_ret
    exact ⟨by rw [← hb, decide_eq_false (fun h => by omega)]; rfl, (Below.refl _ _).alloc (Nat.le_refl _) _⟩

theorem inS (l m n : Int) (b : Bool) (hb : decide (l ≤ n ∧ n ≤ m) = b) (w : World) : Calls Try.prog 67 #[.int .i64 n, .int .i64 l, .int .i64 m] w fun e w' => e = .returned (.bool b) ∧ w' = w := by
  go_enter Try.func67, Try.ntmps67
  by_cases h1 : l ≤ n
  · by_cases h2 : n ≤ m
    · go_wp2
      go_ret
      exact ⟨by rw [← hb, decide_eq_true ⟨h1, h2⟩]; rfl, rfl⟩
    · go_wp2
      go_ret
      exact ⟨by rw [← hb, decide_eq_false (fun h => by omega)]; rfl, rfl⟩
  · go_wp2
    go_ret
    exact ⟨by rw [← hb, decide_eq_false (fun h => by omega)]; rfl, rfl⟩

theorem heap_new (w : World) (o : Obj) : (w.alloc o).heap[w.heap.size]? = some o := by
  show (w.heap.push _)[w.heap.size]? = _
  simp
theorem row_lt {w : World} {k : Nat} {o : Obj} (h : w.heap[k]? = some o) : k < w.heap.size := by
  rcases Nat.lt_or_ge k w.heap.size with h' | h'
  · exact h'
  · rw [Array.getElem?_eq_none h'] at h; cases h
/-- a block that was laid, behind what only grows -/
theorem row_after {w W' : World} {k B : Nat} {o : Obj} (h : w.heap[k]? = some o) (hb : Below B w W') (hk : k < B) : W'.heap[k]? = some o :=
  (hb.block k hk).trans h
theorem row1_cells {w : World} {k : Nat} {t : TypeId} {x : Value} (h : w.heap[k]? = some (.cells #[x] t)) :
    w.cell? ⟨k, 0, none⟩ = some x ∧ w.frozen? ⟨k, 0, none⟩ = false := by
  refine ⟨?_, ?_⟩ <;> simp [World.cell?, World.frozen?, h]
theorem row2_cells {w : World} {k : Nat} {t : TypeId} {x y : Value} (h : w.heap[k]? = some (.cells #[x, y] t)) :
    w.cell? ⟨k, 0, none⟩ = some x ∧ w.cell? ⟨k, 1, none⟩ = some y ∧ w.frozen? ⟨k, 0, none⟩ = false ∧ w.frozen? ⟨k, 1, none⟩ = false := by
  refine ⟨?_, ?_, ?_, ?_⟩ <;> simp [World.cell?, World.frozen?, h]

/-- how many cells of a region there are -/
def cutN (n : Nat) (f s : Int) : Nat := if s < 1 ∨ f < 0 ∨ (n : Int) < f then 0 else (min s ((n : Int) - f)).toNat
theorem cutN_no {n : Nat} {f s : Int} (h : s < 1 ∨ f < 0 ∨ (n : Int) < f) : cutN n f s = 0 := if_pos h
theorem cutN_yes {n : Nat} {f s : Int} (h : ¬ (s < 1 ∨ f < 0 ∨ (n : Int) < f)) : cutN n f s = (min s ((n : Int) - f)).toNat := if_neg h
theorem cutN_le (n : Nat) (f s : Int) : cutN n f s ≤ n := by
  unfold cutN; split <;> omega
theorem cutN_in {n : Nat} {f s : Int} (h : 0 < cutN n f s) : 0 ≤ f ∧ f.toNat + cutN n f s ≤ n ∧ 1 ≤ s ∧ (cutN n f s : Int) ≤ s := by
  unfold cutN at h ⊢; split at h
  · omega
  · rename_i hh; rw [if_neg hh]; omega


set_option maxRecDepth 100000 in
set_option maxHeartbeats 400000 in
theorem cutI (a : Option Addr) (n cap : Nat) (f s : Int) (hn : n ≤ 1048576) (hcap : n ≤ cap) (w : World) :
    Calls Try.prog 100 #[.slice a n cap, .agg #[.int .i64 f, .int .i64 s]] w fun e w' => ∃ v, e = .returned v ∧ (∃ a', v = .slice a' (cutN n f s) (cutN n f s) ∧ (0 < cutN n f s → a' = a.map (·.add f.toNat))) ∧ Below w.heap.size w w' := by
  have HB0 : Hid (Below w.heap.size w (w.alloc (.cells #[.int .i64 f, .int .i64 s] 36))) := (Below.refl _ _).alloc (Nat.le_refl _) _
  have HH : Hid ((w.alloc (.cells #[.int .i64 f, .int .i64 s] 36)).heap[w.heap.size]? = _) := heap_new w _
  by_cases h1 : s < 1
  · have HK : Hid (cutN n f s = 0) := cutN_no (.inl h1)
    go_enter Try.func100, Try.ntmps100
    go_wp2
    go_ret
    exact ⟨_, rfl, ⟨none, by rw [HK.out]; rfl, fun h => by rw [HK.out] at h; omega⟩, HB0.out⟩
  · by_cases h2 : 0 ≤ f ∧ f ≤ (n : Int)
    · obtain ⟨h2a, h2b⟩ := h2
      obtain ⟨fn, rfl⟩ := Int.eq_ofNat_of_zero_le h2a
      have hd : decide ((0 : Int) ≤ (fn : Int) ∧ (fn : Int) ≤ (n : Int)) = true := decide_eq_true ⟨h2a, h2b⟩
      have HC : Hid (cutN n (fn : Int) s = (min s ((n : Int) - fn)).toNat) := cutN_yes (by omega)
      go_enter Try.func100, Try.ntmps100
      go_wp2_with fail
      refine (holdsI 0 n fn true hd _).mono ?_
      rintro e w1 ⟨rfl, hb1⟩
      have HW : Hid (Below w.heap.size w w1) := HB0.out.trans (hb1.mono HB0.out.size)
      have k1 := row2_cells (row_after HH.out hb1 (row_lt HH.out))
      clear hb1 HH HB0 hd
      by_cases h3 : s ≤ (n : Int) - fn
      · obtain ⟨sn, rfl⟩ := Int.eq_ofNat_of_zero_le (show (0 : Int) ≤ s by omega)
        have HK : Hid (cutN n (fn : Int) (sn : Int) = sn) := by have := HC.out; show _ = _; omega
        clear HC
        go_wp2
        go_ret
        exact ⟨_, rfl, ⟨a.map (·.add fn), by rw [HK.out]; show Value.slice _ (fn + sn - fn) (fn + sn - fn) = _; rw [Nat.add_sub_cancel_left], fun _ => by simp⟩, HW.out⟩
      · have HK : Hid (cutN n (fn : Int) s = n - fn) := by have := HC.out; show _ = _; omega
        clear HC
        by_cases h4 : fn < n
        · have h5 : ¬ fn + (n - fn) = fn := by omega
          have h6 : ¬ n - fn = 0 := by omega
          go_wp2
          go_ret
          exact ⟨_, rfl, ⟨a.map (·.add fn), by rw [HK.out]; show Value.slice _ (fn + (n - fn) - fn) (fn + (n - fn) - fn) = _; rw [show fn + (n - fn) - fn = n - fn by omega], fun _ => by simp⟩, HW.out⟩
        · obtain rfl : fn = n := by omega
          have HK2 : Hid (cutN fn (fn : Int) s = 0) := by have := HK.out; show _ = _; omega
          clear HK
          go_wp2
          go_ret
          exact ⟨_, rfl, ⟨a, by rw [HK2.out]; rfl, fun h => by rw [HK2.out] at h; omega⟩, HW.out⟩
    · have HK : Hid (cutN n f s = 0) := cutN_no (by omega)
      have hd : decide ((0 : Int) ≤ f ∧ f ≤ (n : Int)) = false := decide_eq_false h2
      go_enter Try.func100, Try.ntmps100
      go_wp2_with fail
      refine (holdsI 0 n f false hd _).mono ?_
      rintro e w1 ⟨rfl, hb1⟩
      have HW : Hid (Below w.heap.size w w1) := HB0.out.trans (hb1.mono HB0.out.size)
      clear hb1 HH HB0 hd
      go_wp2
      go_ret
      exact ⟨_, rfl, ⟨none, by rw [HK.out]; rfl, fun h => by rw [HK.out] at h; omega⟩, HW.out⟩

theorem placeI (a : Option Addr) (n cap : Nat) (at_ : Int) (b : Bool) (hb : decide (0 ≤ at_ ∧ at_ ≤ (n : Int) - 1) = b) (hn : n ≤ 1048576) (w : World) :
    Calls Try.prog 101 #[.slice a n cap, .int .i64 at_] w fun e w' => e = .returned (.bool b) ∧ Below w.heap.size w w' := by
  go_enter Try.func101, Try.ntmps101
  go_wp2_with fail
  refine (holdsI 0 ((n : Int) - 1) at_ b hb _).mono ?_
  rintro e w1 ⟨rfl, hb1⟩
  go_wp2
  go_ret
  exact ⟨rfl, hb1⟩

theorem mod_word (n : Int) : (n.tmod 65536 + 65536).tmod 65536 = n % 65536 := by
  have h1 : -65536 < n.tmod 65536 := by
    have := Int.lt_tmod_of_pos n (show (0 : Int) < 65536 by decide); exact this
  rw [Int.tmod_eq_emod_of_nonneg (by omega)]
  rw [Int.tmod_eq_emod]
  split
  · omega
  · simp

theorem word_val (n : Int) : (wrap64 (n.tmod 65536 + 65536)).tmod 65536 = n % 65536 := by
  have h1 : -65536 < n.tmod 65536 := by
    have := Int.lt_tmod_of_pos n (show (0 : Int) < 65536 by decide); exact this
  have h2 : n.tmod 65536 < 65536 := Int.tmod_lt_of_pos n (by decide)
  rw [wrap64_in (by omega) (by omega)]
  exact mod_word n

theorem wordI (n : Int) (w : World) : Calls Try.prog 74 #[.int .i64 n] w fun e w' => e = .returned (.int .i64 (n % 65536)) ∧ w' = w := by
  go_enter Try.func74, Try.ntmps74
  go_wp2
  go_ret
  exact ⟨by rw [← word_val n]; rfl, rfl⟩

theorem add_at (g o j : Nat) : (⟨g, o, none⟩ : Addr).add j = ⟨g, o + j, none⟩ := by
  unfold Addr.add; split <;> simp_all

/-- copy into a list that has just been made, as long as the one that is copied -/
theorem run_copy_new (w : World) (a : Option Addr) (l : List Int) (n cap : Nat) (hl : l.length = n) (hr : Rd (w.alloc (.cells (madeCells #[.int .i64 0] n) 3)) a l) :
    (Builtin.copy_ #[23, 23] 3 #[.slice (some ⟨w.heap.size, 0, none⟩) n n, .slice a n cap]).run Try.prog (w.alloc (.cells (madeCells #[.int .i64 0] n) 3)) = .ok (.int .i64 n) (w.alloc (.cells (intsV l).toArray 3)) := by
  by_cases h0 : n = 0
  · subst h0
    obtain rfl : l = [] := List.eq_nil_of_length_eq_zero hl
    rw [run_copy_none (P := Try.prog) _ 23 23 3 3 _ _ 0 0 0 cap Try.underlying23 size3 (by simp), show madeCells #[.int .i64 0] 0 = #[] from by simp [madeCells]]
    rfl
  · obtain ⟨g, off, rfl, hc⟩ := hr (by omega)
    have hlen : (intsV l).length = n := by rw [intsV_len, hl]
    rw [run_copy_row (P := Try.prog) _ 23 23 3 3 w.heap.size 0 n n ⟨g, off, none⟩ n cap (madeCells #[.int .i64 0] n) 3 (intsV l) Try.underlying23 size3 (heap_alloc_new w _) (by rw [hlen]; simp) (fun j v hv => by obtain ⟨hj, rfl⟩ := intsV_at hv; rw [add_at]; exact hc j hj) (by rw [hlen]; simp [madeCells]) intsV_one]
    rw [hlen, World.setRow_alloc_new]
    have : List.take 0 (madeCells #[.int .i64 0] n).toList ++ intsV l ++ List.drop (0 + n) (madeCells #[.int .i64 0] n).toList = intsV l := by
      simp [madeCells]
    rw [this]
    rfl

set_option maxRecDepth 100000 in
set_option maxHeartbeats 400000 in
theorem copyI (a : Option Addr) (l : List Int) (n cap : Nat) (hl : l.length = n) (hn : n ≤ 1048576) (w : World) (hr : Rd w a l) :
    Calls Try.prog 77 #[.slice a n cap] w fun e w' => e = .returned (.slice (some ⟨w.heap.size, 0, none⟩) n n) ∧ RowAt w' w.heap.size l ∧ Below w.heap.size w w' := by
  have hcp := run_copy_new w a l n cap hl (hr.keep ((Below.refl w.heap.size w).alloc (Nat.le_refl _) _) (Nat.le_refl _))
  have hmk := run_make_row' (P := Try.prog) 23 3 (.int .i64 0) 8 Try.underlying23 info3 rfl .i64 .i64 n (by omega) (by omega)
  clear hr hl
  go_enter Try.func77, Try.ntmps77
  go_wp2
  go_ret
  exact ⟨rfl, heap_alloc_new w _, (Below.refl w.heap.size w).alloc (Nat.le_refl _) _⟩

/-- a copy of an arena -/
theorem copyA_start (w : World) (u z : Value) (t : TypeId) :
    ((w.alloc (.cells #[u] t)).alloc (.cells #[z] t)).heap[w.heap.size]? = some (.cells #[u] t) ∧ ((w.alloc (.cells #[u] t)).alloc (.cells #[z] t)).heap[w.heap.size + 1]? = some (.cells #[z] t) ∧ Below w.heap.size w ((w.alloc (.cells #[u] t)).alloc (.cells #[z] t)) ∧ ((w.alloc (.cells #[u] t)).alloc (.cells #[z] t)).heap.size = w.heap.size + 2 := by
  refine ⟨(Below.heap_alloc _ _ _ (by simp)).trans (heap_new w _), ?_, ((Below.refl _ _).alloc (Nat.le_refl _) _).alloc (by simp) _, by simp⟩
  have := heap_new (w.alloc (.cells #[u] t)) (.cells #[z] t)
  simpa using this

set_option maxRecDepth 100000 in
set_option maxHeartbeats 400000 in
theorem copyA (a : Option Addr) (l : List Int) (n cap : Nat) (hl : l.length = n) (hn : n ≤ 1048576) (w : World) (hr : Rd w a l) :
    Calls Try.prog 71 #[.agg #[.slice a n cap]] w fun e w' => e = .returned (.agg #[.slice (some ⟨w.heap.size + 2, 0, none⟩) n n]) ∧ RowAt w' (w.heap.size + 2) l ∧ Below w.heap.size w w' := by
  obtain ⟨hA, hZ, hW, hS⟩ := copyA_start w (.slice a n cap) (.slice none 0 0) 34
  have HA : Hid (_ = _) := hA
  have HZ : Hid (_ = _) := hZ
  have HW : Hid (Below _ _ _) := hW
  have HS : Hid (_ = _) := hS
  have HR : Hid (Rd w a l) := hr
  have HL : Hid (l.length = n) := hl
  clear hA hZ hW hS hr hl
  go_enter Try.func71, Try.ntmps71
  go_wp2_with fail
  refine (copyI a l n cap HL.out hn _ (HR.out.keep HW.out (Nat.le_refl _))).mono ?_
  rintro e w1 ⟨rfl, hrow, hb1⟩
  rw [HS.out] at hrow hb1 ⊢
  have kx := row1_cells (row_after HA.out hb1 (by omega))
  have ky := row1_cells (row_after HZ.out hb1 (by omega))
  have HROW : Hid (RowAt w1 (w.heap.size + 2) l) := hrow
  have HW1 : Hid (Below w.heap.size w w1) := HW.out.trans (hb1.mono (by omega))
  clear hrow hb1 HA HZ HW HS HR
  go_wp2
  refine bodyPost_ret (v := .agg #[.slice (some ⟨w.heap.size + 2, 0, none⟩) n n]) (by simp [results, Try.results71, go_sem, ky]) rfl ⟨rfl, ?_, ?_⟩
  · unfold RowAt
    rw [Below.heap_setCell _ _ _ _ (by simp), Below.heap_setCell _ _ _ _ (by simp)]
    exact HROW.out
  · exact (HW1.out.setCell (by simp) _).setCell (by simp) _
end Go.Proofs.Ythnocibkgpofnaa
