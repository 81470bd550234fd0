/-
  Cells: what is cut, copied, cleared: the contracts of the program's own helpers.
-/
import Derived.Test.YtgpdkodnggpkeaaInts
namespace Go.Proofs.Ytgpdkodnggpkeaa
open Go.RowKit Go.PlainAid
set_option linter.unusedVariables false

theorem holdsI (l m n : Int) (b : Bool) (hb : decide (l ≤ n ∧ n ≤ m) = b) (w : World) : Calls Try.prog 56 #[.agg #[.int .i64 l, .int .i64 m], .int .i64 n] w fun e w' => e = .returned (.bool b) ∧ Below w.heap.size w w' := by
  go_enter Try.func56, Try.ntmps56
  by_cases h1 : l ≤ n
  · by_cases h2 : n ≤ m
    · go_wp2
      go_ret
      exact ⟨by rw [← hb, decide_eq_true ⟨h1, h2⟩]; rfl, (Below.refl _ _).alloc (Nat.le_refl _) _⟩
    · go_wp2
      go_ret
      exact ⟨by rw [← hb, decide_eq_false (fun h => by omega)]; rfl, (Below.refl _ _).alloc (Nat.le_refl _) _⟩
  · go_wp2
    go_ret
    exact ⟨by rw [← hb, decide_eq_false (fun h => by omega)]; rfl, (Below.refl _ _).alloc (Nat.le_refl _) _⟩

theorem inS (l m n : Int) (b : Bool) (hb : decide (l ≤ n ∧ n ≤ m) = b) (w : World) : Calls Try.prog 44 #[.int .i64 n, .int .i64 l, .int .i64 m] w fun e w' => e = .returned (.bool b) ∧ w' = w := by
  go_enter Try.func44, Try.ntmps44
  by_cases h1 : l ≤ n
  · by_cases h2 : n ≤ m
    · go_wp2
      go_ret
      exact ⟨by rw [← hb, decide_eq_true ⟨h1, h2⟩]; rfl, rfl⟩
    · go_wp2
      go_ret
      exact ⟨by rw [← hb, decide_eq_false (fun h => by omega)]; rfl, rfl⟩
  · go_wp2
    go_ret
    exact ⟨by rw [← hb, decide_eq_false (fun h => by omega)]; rfl, rfl⟩

theorem heap_new (w : World) (o : Obj) : (w.alloc o).heap[w.heap.size]? = some o := by
  show (w.heap.push _)[w.heap.size]? = _
  simp
theorem row_lt {w : World} {k : Nat} {o : Obj} (h : w.heap[k]? = some o) : k < w.heap.size := by
  rcases Nat.lt_or_ge k w.heap.size with h' | h'
  · exact h'
  · rw [Array.getElem?_eq_none h'] at h; cases h
/-- a block that was laid, behind what only grows -/
theorem row_after {w W' : World} {k B : Nat} {o : Obj} (h : w.heap[k]? = some o) (hb : Below B w W') (hk : k < B) : W'.heap[k]? = some o :=
  (hb.block k hk).trans h
theorem row1_cells {w : World} {k : Nat} {t : TypeId} {x : Value} (h : w.heap[k]? = some (.cells #[x] t)) :
    w.cell? ⟨k, 0, none⟩ = some x ∧ w.frozen? ⟨k, 0, none⟩ = false := by
  refine ⟨?_, ?_⟩ <;> simp [World.cell?, World.frozen?, h]
theorem row2_cells {w : World} {k : Nat} {t : TypeId} {x y : Value} (h : w.heap[k]? = some (.cells #[x, y] t)) :
    w.cell? ⟨k, 0, none⟩ = some x ∧ w.cell? ⟨k, 1, none⟩ = some y ∧ w.frozen? ⟨k, 0, none⟩ = false ∧ w.frozen? ⟨k, 1, none⟩ = false := by
  refine ⟨?_, ?_, ?_, ?_⟩ <;> simp [World.cell?, World.frozen?, h]

/-- how many cells of a region there are -/
def cutN (n : Nat) (f s : Int) : Nat := if s < 1 ∨ f < 0 ∨ (n : Int) < f then 0 else (min s ((n : Int) - f)).toNat
theorem cutN_no {n : Nat} {f s : Int} (h : s < 1 ∨ f < 0 ∨ (n : Int) < f) : cutN n f s = 0 := if_pos h
theorem cutN_yes {n : Nat} {f s : Int} (h : ¬ (s < 1 ∨ f < 0 ∨ (n : Int) < f)) : cutN n f s = (min s ((n : Int) - f)).toNat := if_neg h
theorem cutN_le (n : Nat) (f s : Int) : cutN n f s ≤ n := by
  unfold cutN; split <;> omega
theorem cutN_in {n : Nat} {f s : Int} (h : 0 < cutN n f s) : 0 ≤ f ∧ f.toNat + cutN n f s ≤ n ∧ 1 ≤ s ∧ (cutN n f s : Int) ≤ s := by
  unfold cutN at h ⊢; split at h
  · omega
  · rename_i hh; rw [if_neg hh]; omega


theorem mod_word (n : Int) : (n.tmod 65536 + 65536).tmod 65536 = n % 65536 := by
  have h1 : -65536 < n.tmod 65536 := by
    have := Int.lt_tmod_of_pos n (show (0 : Int) < 65536 by decide); exact this
  rw [Int.tmod_eq_emod_of_nonneg (by omega)]
  rw [Int.tmod_eq_emod]
  split
  · omega
  · simp

theorem word_val (n : Int) : (wrap64 (n.tmod 65536 + 65536)).tmod 65536 = n % 65536 := by
  have h1 : -65536 < n.tmod 65536 := by
    have := Int.lt_tmod_of_pos n (show (0 : Int) < 65536 by decide); exact this
  have h2 : n.tmod 65536 < 65536 := Int.tmod_lt_of_pos n (by decide)
  rw [wrap64_in (by omega) (by omega)]
  exact mod_word n

theorem add_at (g o j : Nat) : (⟨g, o, none⟩ : Addr).add j = ⟨g, o + j, none⟩ := by
  unfold Addr.add; split <;> simp_all

/-- copy into a list that has just been made, as long as the one that is copied -/
theorem run_copy_new (w : World) (a : Option Addr) (l : List Int) (n cap : Nat) (hl : l.length = n) (hr : Rd (w.alloc (.cells (madeCells #[.int .i64 0] n) 3)) a l) :
    (Builtin.copy_ #[24, 24] 3 #[.slice (some ⟨w.heap.size, 0, none⟩) n n, .slice a n cap]).run Try.prog (w.alloc (.cells (madeCells #[.int .i64 0] n) 3)) = .ok (.int .i64 n) (w.alloc (.cells (intsV l).toArray 3)) := by
  by_cases h0 : n = 0
  · subst h0
    obtain rfl : l = [] := List.eq_nil_of_length_eq_zero hl
    rw [run_copy_none (P := Try.prog) _ 24 24 3 3 _ _ 0 0 0 cap Try.underlying24 size3 (by simp), show madeCells #[.int .i64 0] 0 = #[] from by simp [madeCells]]
    rfl
  · obtain ⟨g, off, rfl, hc⟩ := hr (by omega)
    have hlen : (intsV l).length = n := by rw [intsV_len, hl]
    rw [run_copy_row (P := Try.prog) _ 24 24 3 3 w.heap.size 0 n n ⟨g, off, none⟩ n cap (madeCells #[.int .i64 0] n) 3 (intsV l) Try.underlying24 size3 (heap_alloc_new w _) (by rw [hlen]; simp) (fun j v hv => by obtain ⟨hj, rfl⟩ := intsV_at hv; rw [add_at]; exact hc j hj) (by rw [hlen]; simp [madeCells]) intsV_one]
    rw [hlen, World.setRow_alloc_new]
    have : List.take 0 (madeCells #[.int .i64 0] n).toList ++ intsV l ++ List.drop (0 + n) (madeCells #[.int .i64 0] n).toList = intsV l := by
      simp [madeCells]
    rw [this]
    rfl

set_option maxRecDepth 100000 in
set_option maxHeartbeats 400000 in
theorem copyI (a : Option Addr) (l : List Int) (n cap : Nat) (hl : l.length = n) (hn : n ≤ 1048576) (w : World) (hr : Rd w a l) :
    Calls Try.prog 54 #[.slice a n cap] w fun e w' => e = .returned (.slice (some ⟨w.heap.size, 0, none⟩) n n) ∧ RowAt w' w.heap.size l ∧ Below w.heap.size w w' := by
  have hcp := run_copy_new w a l n cap hl (hr.keep ((Below.refl w.heap.size w).alloc (Nat.le_refl _) _) (Nat.le_refl _))
  have hmk := run_make_row' (P := Try.prog) 24 3 (.int .i64 0) 8 Try.underlying24 info3 rfl .i64 .i64 n (by omega) (by omega)
  clear hr hl
  go_enter Try.func54, Try.ntmps54
  go_wp2
  go_ret
  exact ⟨rfl, heap_alloc_new w _, (Below.refl w.heap.size w).alloc (Nat.le_refl _) _⟩

/-- a copy of an arena -/
theorem copyA_start (w : World) (u z : Value) (t : TypeId) :
    ((w.alloc (.cells #[u] t)).alloc (.cells #[z] t)).heap[w.heap.size]? = some (.cells #[u] t) ∧ ((w.alloc (.cells #[u] t)).alloc (.cells #[z] t)).heap[w.heap.size + 1]? = some (.cells #[z] t) ∧ Below w.heap.size w ((w.alloc (.cells #[u] t)).alloc (.cells #[z] t)) ∧ ((w.alloc (.cells #[u] t)).alloc (.cells #[z] t)).heap.size = w.heap.size + 2 := by
  refine ⟨(Below.heap_alloc _ _ _ (by simp)).trans (heap_new w _), ?_, ((Below.refl _ _).alloc (Nat.le_refl _) _).alloc (by simp) _, by simp⟩
  have := heap_new (w.alloc (.cells #[u] t)) (.cells #[z] t)
  simpa using this

end Go.Proofs.Ytgpdkodnggpkeaa
