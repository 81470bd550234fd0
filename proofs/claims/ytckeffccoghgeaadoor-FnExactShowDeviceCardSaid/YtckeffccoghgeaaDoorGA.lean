/-
  Guards, in a namespace of their own.
-/
import Derived.Test.YtckeffccoghgeaaDoorBase
import Derived.Laws.Rows
import Derived.Laws.CopyOwn
import Derived.Deep.OwnRows
import Derived.Deep.WholeRow
import Derived.Laws.AppendOwnNone
import Derived.Test.YtckeffccoghgeaaDoorRows
import Derived.Deep.Strs
import Derived.OpenShut
import Derived.ChangeSame
import Derived.ChangeOld
import Derived.Deep.DeepCutAuto
import Derived.Deep.LoopGhost
import Derived.Deep.SlicePairs
import Derived.Maps.AppendAt
namespace Go.Proofs.YtckeffccoghgeaaDoor.G
open Go.RowKit Go.PlainAid
set_option linter.unusedVariables false

theorem info3 : (Tryd.prog.info? 3).map (fun i => (i.zero, i.size, i.bytes)) = some (some (.int .i64 0), 1, 8) := by kernel_rfl

def intsV (l : List Int) : List Value := l.map (Value.int .i64)

theorem own_empty3 (w : World) : (w.alloc (.cells #[] 3)).ownsRow w.heap.size 3 1 (.slice (some ⟨w.heap.size, 0, none⟩) 0 0) 0 (intsV []) :=
  ⟨rfl, Or.inr ⟨_, 0, #[], rfl, Nat.le_refl _, by show (w.heap.push _)[w.heap.size]? = _; simp, Nat.le_refl _, by decide, rfl, rfl⟩⟩

theorem one_cell3 (wr : World) (x : Value) (a : Addr) (ha : a = ⟨wr.heap.size, 0, none⟩) : ∀ j u, [x][j]? = some u → (wr.alloc (.cells #[x] 3)).cell? (a.add j) = some u := by
  intro j u hj
  subst ha
  match j, hj with
  | 0, hj => simp at hj; subst hj; simp [Addr.add]

theorem own_ge3 {wr : World} {B n : Nat} {v : Value} {xs : List Value} (h : wr.ownsRow B 3 1 v n xs) : ∀ k, v.ownBlock = some k → B ≤ k := by
  intro k hk
  rcases h.2 with ⟨rfl, e⟩ | ⟨g, cap, cur, rfl, hg, _⟩
  · simp [Value.ownBlock] at hk
  · simp [Value.ownBlock] at hk; omega

theorem own_grown3 {w w' : World} {B C n : Nat} {v : Value} {xs : List Value} (h : w.ownsRow B 3 1 v n xs) (hg : w.grownBy w' (some C)) (hC : C < B) : w'.ownsRow B 3 1 v n xs := by
  refine ⟨h.1, ?_⟩
  rcases h.2 with h2 | ⟨g, cap, cur, rfl, hge, hh, h3⟩
  · exact .inl h2
  · have hlt : g < w.heap.size := by
      rcases Nat.lt_or_ge g w.heap.size with h' | h'
      · exact h'
      · rw [Array.getElem?_eq_none h'] at hh; cases hh
    exact .inr ⟨g, cap, cur, rfl, hge, by rw [hg.block g hlt (fun e => by cases e; omega)]; exact hh, h3⟩

/-- a list of numbers that is owned: where its cells lie -/
theorem own_cells3 {w : World} {B : Nat} {v : Value} {l : List Int} (h : w.ownsRow B 3 1 v l.length (intsV l)) (h0 : 0 < l.length) :
    ∃ g cap, v = .slice (some ⟨g, 0, none⟩) l.length cap ∧ B ≤ g ∧ ∀ j (hj : j < l.length), w.cell? ⟨g, j, none⟩ = some (.int .i64 l[j]) := by
  have h' := h
  rcases h.2 with ⟨rfl, e⟩ | ⟨g, cap, cur, rfl, hg, hh, hnc, hcp, hcs, htake⟩
  · omega
  · refine ⟨g, cap, rfl, hg, fun j hj => ?_⟩
    rw [h'.cellAt j (by omega)]
    simp [intsV, hj]

/-- a list of ints that has just been laid -/
theorem laid_ints (w : World) (l : List Int) (j : Nat) (hj : j < l.length) : (w.alloc (.cells (l.map (Value.int .i64)).toArray 3)).cell? ⟨w.heap.size, j, none⟩ = some (.int .i64 l[j]) := by
  rw [cell_of_row _ w.heap.size j _ 3 (0, 0) (heap_alloc_new w _)]
  simp [hj]

theorem size3 : (Tryd.prog.info? 3).map (·.size) = some 1 := by kernel_rfl
theorem intsV_len (l : List Int) : (intsV l).length = l.length := List.length_map ..
theorem intsV_at {l : List Int} {j : Nat} {v : Value} (h : (intsV l)[j]? = some v) : ∃ hj : j < l.length, v = .int .i64 l[j] := by
  have hj : j < l.length := by
    have := (List.getElem?_eq_some_iff.1 h).1
    rw [intsV_len] at this; exact this
  refine ⟨hj, ?_⟩
  simp [intsV, hj] at h
  exact h.symm
theorem intsV_one {l : List Int} : ∀ v ∈ intsV l, v.oneCell' = true := by
  intro v hv
  simp [intsV] at hv
  obtain ⟨x, _, rfl⟩ := hv
  rfl
theorem intsV_set {l : List Int} {j : Nat} {x : Int} : (intsV l).set j (.int .i64 x) = intsV (l.set j x) := by
  unfold intsV; rw [List.map_set]

/-- a list of numbers that is read, wherever it lies -/
def Rd (w : World) (a : Option Addr) (l : List Int) : Prop := 0 < l.length → ∃ g off, a = some ⟨g, off, none⟩ ∧ ∀ j (h : j < l.length), w.cell? ⟨g, off + j, none⟩ = some (.int .i64 l[j])

theorem Rd.keep {w w' : World} {a : Option Addr} {l : List Int} {B : Nat} (h : Rd w a l) (hb : Below B w w') (hB : w.heap.size ≤ B) : Rd w' a l := fun h0 => by
  obtain ⟨g, off, ha, hc⟩ := h h0
  exact ⟨g, off, ha, fun j hj => (hb.cell (p := ⟨g, off + j, none⟩) (Nat.lt_of_lt_of_le (World.block_lt_of_cell? w ⟨g, off + j, none⟩ (hc j hj)) hB)).trans (hc j hj)⟩

/-- a block that is a list of numbers, whole -/
def RowAt (w : World) (g : Nat) (l : List Int) : Prop := w.heap[g]? = some (.cells (intsV l).toArray 3 (0, 0))

theorem RowAt.lt {w : World} {g : Nat} {l : List Int} (h : RowAt w g l) : g < w.heap.size := by
  rcases Nat.lt_or_ge g w.heap.size with h' | h'
  · exact h'
  · unfold RowAt at h; rw [Array.getElem?_eq_none h'] at h; cases h
theorem RowAt.keep {w w' : World} {g B : Nat} {l : List Int} (h : RowAt w g l) (hb : Below B w w') (hg : g < B) : RowAt w' g l := by
  unfold RowAt; rw [hb.block g hg]; exact h
theorem RowAt.cell {w : World} {g : Nat} {l : List Int} (h : RowAt w g l) (j : Nat) (hj : j < l.length) : w.cell? ⟨g, j, none⟩ = some (.int .i64 l[j]) := by
  rw [cell_of_row w g j _ 3 (0, 0) h]
  simp [intsV, hj]
theorem RowAt.free {w : World} {g : Nat} {l : List Int} (h : RowAt w g l) (j : Nat) : w.frozen? ⟨g, j, none⟩ = false := frozen_of_row w g j _ 3 h
theorem RowAt.rd {w : World} {g : Nat} {l : List Int} (h : RowAt w g l) : Rd w (some ⟨g, 0, none⟩) l := fun _ => ⟨g, 0, rfl, fun j hj => by rw [Nat.zero_add]; exact h.cell j hj⟩
theorem RowAt.set {w : World} {g : Nat} {l : List Int} (h : RowAt w g l) (j : Nat) (x : Int) : RowAt (w.setCell ⟨g, j, none⟩ (.int .i64 x)) g (l.set j x) := by
  unfold RowAt at h ⊢
  rw [heap_setCell_same w g j _ 3 (.int .i64 x) h, ← intsV_set]
  simp
theorem RowAt.owns {w : World} {g B : Nat} {l : List Int} (h : RowAt w g l) (hB : B ≤ g) (hl : l.length ≤ maxLen) : w.ownsRow B 3 1 (.slice (some ⟨g, 0, none⟩) l.length l.length) l.length (intsV l) :=
  ⟨by simp [intsV_len], Or.inr ⟨g, l.length, (intsV l).toArray, rfl, hB, h, Nat.le_refl _, hl, by simp [intsV_len], by simp; exact List.take_of_length_le (by rw [intsV_len]; exact Nat.le_refl _)⟩⟩
/-- the list of an owned row is read at its head -/
theorem own_rd {w : World} {B n : Nat} {v : Value} {l : List Int} (h : w.ownsRow B 3 1 v n (intsV l)) : ∃ a cap, v = .slice a n cap ∧ n ≤ cap ∧ l.length = n ∧ Rd w a l := by
  have h' := h
  have hl : l.length = n := by have := h.1; rw [intsV_len] at this; omega
  rcases h.2 with ⟨rfl, e⟩ | ⟨g, cap, cur, rfl, hg, hh, hnc, hcp, hcs, htake⟩
  · exact ⟨none, 0, by rw [e], by omega, hl, fun h0 => by omega⟩
  · refine ⟨_, cap, rfl, hnc, hl, fun _ => ⟨g, 0, rfl, fun j hj => ?_⟩⟩
    rw [Nat.zero_add, h'.cellAt j (by omega)]
    simp [intsV, hj]
end Go.Proofs.YtckeffccoghgeaaDoor.G

namespace Go.Proofs.YtckeffccoghgeaaDoor.G
open Go.RowKit Go.PlainAid
set_option linter.unusedVariables false

theorem holdsI (l m n : Int) (b : Bool) (hb : decide (l ≤ n ∧ n ≤ m) = b) (w : World) : Calls Tryd.prog 51 #[.agg #[.int .i64 l, .int .i64 m], .int .i64 n] w fun e w' => e = .returned (.bool b) ∧ Below w.heap.size w w' := by
  go_enter Tryd.func51, Tryd.ntmps51
  by_cases h1 : l ≤ n
  · by_cases h2 : n ≤ m
    · go_wp2
      go_ret
      exact ⟨by rw [← hb, decide_eq_true ⟨h1, h2⟩]; rfl, (Below.refl _ _).alloc (Nat.le_refl _) _⟩
    · go_wp2
      go_ret
      exact ⟨by rw [← hb, decide_eq_false (fun h => by omega)]; rfl, (Below.refl _ _).alloc (Nat.le_refl _) _⟩
  · go_wp2
    go_ret
    exact ⟨by rw [← hb, decide_eq_false (fun h => by omega)]; rfl, (Below.refl _ _).alloc (Nat.le_refl _) _⟩

theorem inS (l m n : Int) (b : Bool) (hb : decide (l ≤ n ∧ n ≤ m) = b) (w : World) : Calls Tryd.prog 31 #[.int .i64 n, .int .i64 l, .int .i64 m] w fun e w' => e = .returned (.bool b) ∧ w' = w := by
  go_enter Tryd.func31, Tryd.ntmps31
  by_cases h1 : l ≤ n
  · by_cases h2 : n ≤ m
    · go_wp2
      go_ret
      exact ⟨by rw [← hb, decide_eq_true ⟨h1, h2⟩]; rfl, rfl⟩
    · go_wp2
      go_ret
      exact ⟨by rw [← hb, decide_eq_false (fun h => by omega)]; rfl, rfl⟩
  · go_wp2
    go_ret
    exact ⟨by rw [← hb, decide_eq_false (fun h => by omega)]; rfl, rfl⟩

theorem heap_new (w : World) (o : Obj) : (w.alloc o).heap[w.heap.size]? = some o := by
  show (w.heap.push _)[w.heap.size]? = _
  simp
theorem row_lt {w : World} {k : Nat} {o : Obj} (h : w.heap[k]? = some o) : k < w.heap.size := by
  rcases Nat.lt_or_ge k w.heap.size with h' | h'
  · exact h'
  · rw [Array.getElem?_eq_none h'] at h; cases h
/-- a block that was laid, behind what only grows -/
theorem row_after {w W' : World} {k B : Nat} {o : Obj} (h : w.heap[k]? = some o) (hb : Below B w W') (hk : k < B) : W'.heap[k]? = some o :=
  (hb.block k hk).trans h
theorem row1_cells {w : World} {k : Nat} {t : TypeId} {x : Value} (h : w.heap[k]? = some (.cells #[x] t)) :
    w.cell? ⟨k, 0, none⟩ = some x ∧ w.frozen? ⟨k, 0, none⟩ = false := by
  refine ⟨?_, ?_⟩ <;> simp [World.cell?, World.frozen?, h]
theorem row2_cells {w : World} {k : Nat} {t : TypeId} {x y : Value} (h : w.heap[k]? = some (.cells #[x, y] t)) :
    w.cell? ⟨k, 0, none⟩ = some x ∧ w.cell? ⟨k, 1, none⟩ = some y ∧ w.frozen? ⟨k, 0, none⟩ = false ∧ w.frozen? ⟨k, 1, none⟩ = false := by
  refine ⟨?_, ?_, ?_, ?_⟩ <;> simp [World.cell?, World.frozen?, h]

/-- how many cells of a region there are -/
def cutN (n : Nat) (f s : Int) : Nat := if s < 1 ∨ f < 0 ∨ (n : Int) < f then 0 else (min s ((n : Int) - f)).toNat
theorem cutN_no {n : Nat} {f s : Int} (h : s < 1 ∨ f < 0 ∨ (n : Int) < f) : cutN n f s = 0 := if_pos h
theorem cutN_yes {n : Nat} {f s : Int} (h : ¬ (s < 1 ∨ f < 0 ∨ (n : Int) < f)) : cutN n f s = (min s ((n : Int) - f)).toNat := if_neg h
theorem cutN_le (n : Nat) (f s : Int) : cutN n f s ≤ n := by
  unfold cutN; split <;> omega
theorem cutN_in {n : Nat} {f s : Int} (h : 0 < cutN n f s) : 0 ≤ f ∧ f.toNat + cutN n f s ≤ n ∧ 1 ≤ s ∧ (cutN n f s : Int) ≤ s := by
  unfold cutN at h ⊢; split at h
  · omega
  · rename_i hh; rw [if_neg hh]; omega


theorem mod_word (n : Int) : (n.tmod 65536 + 65536).tmod 65536 = n % 65536 := by
  have h1 : -65536 < n.tmod 65536 := by
    have := Int.lt_tmod_of_pos n (show (0 : Int) < 65536 by decide); exact this
  rw [Int.tmod_eq_emod_of_nonneg (by omega)]
  rw [Int.tmod_eq_emod]
  split
  · omega
  · simp

theorem word_val (n : Int) : (wrap64 (n.tmod 65536 + 65536)).tmod 65536 = n % 65536 := by
  have h1 : -65536 < n.tmod 65536 := by
    have := Int.lt_tmod_of_pos n (show (0 : Int) < 65536 by decide); exact this
  have h2 : n.tmod 65536 < 65536 := Int.tmod_lt_of_pos n (by decide)
  rw [wrap64_in (by omega) (by omega)]
  exact mod_word n

theorem add_at (g o j : Nat) : (⟨g, o, none⟩ : Addr).add j = ⟨g, o + j, none⟩ := by
  unfold Addr.add; split <;> simp_all

/-- copy into a list that has just been made, as long as the one that is copied -/
theorem run_copy_new (w : World) (a : Option Addr) (l : List Int) (n cap : Nat) (hl : l.length = n) (hr : Rd (w.alloc (.cells (madeCells #[.int .i64 0] n) 3)) a l) :
    (Builtin.copy_ #[26, 26] 3 #[.slice (some ⟨w.heap.size, 0, none⟩) n n, .slice a n cap]).run Tryd.prog (w.alloc (.cells (madeCells #[.int .i64 0] n) 3)) = .ok (.int .i64 n) (w.alloc (.cells (intsV l).toArray 3)) := by
  by_cases h0 : n = 0
  · subst h0
    obtain rfl : l = [] := List.eq_nil_of_length_eq_zero hl
    rw [run_copy_none (P := Tryd.prog) _ 26 26 3 3 _ _ 0 0 0 cap Tryd.underlying26 size3 (by simp), show madeCells #[.int .i64 0] 0 = #[] from by simp [madeCells]]
    rfl
  · obtain ⟨g, off, rfl, hc⟩ := hr (by omega)
    have hlen : (intsV l).length = n := by rw [intsV_len, hl]
    rw [run_copy_row (P := Tryd.prog) _ 26 26 3 3 w.heap.size 0 n n ⟨g, off, none⟩ n cap (madeCells #[.int .i64 0] n) 3 (intsV l) Tryd.underlying26 size3 (heap_alloc_new w _) (by rw [hlen]; simp) (fun j v hv => by obtain ⟨hj, rfl⟩ := intsV_at hv; rw [add_at]; exact hc j hj) (by rw [hlen]; simp [madeCells]) intsV_one]
    rw [hlen, World.setRow_alloc_new]
    have : List.take 0 (madeCells #[.int .i64 0] n).toList ++ intsV l ++ List.drop (0 + n) (madeCells #[.int .i64 0] n).toList = intsV l := by
      simp [madeCells]
    rw [this]
    rfl

/-- a copy of an arena -/
theorem copyA_start (w : World) (u z : Value) (t : TypeId) :
    ((w.alloc (.cells #[u] t)).alloc (.cells #[z] t)).heap[w.heap.size]? = some (.cells #[u] t) ∧ ((w.alloc (.cells #[u] t)).alloc (.cells #[z] t)).heap[w.heap.size + 1]? = some (.cells #[z] t) ∧ Below w.heap.size w ((w.alloc (.cells #[u] t)).alloc (.cells #[z] t)) ∧ ((w.alloc (.cells #[u] t)).alloc (.cells #[z] t)).heap.size = w.heap.size + 2 := by
  refine ⟨(Below.heap_alloc _ _ _ (by simp)).trans (heap_new w _), ?_, ((Below.refl _ _).alloc (Nat.le_refl _) _).alloc (by simp) _, by simp⟩
  have := heap_new (w.alloc (.cells #[u] t)) (.cells #[z] t)
  simpa using this

end Go.Proofs.YtckeffccoghgeaaDoor.G

namespace Go.Proofs.YtckeffccoghgeaaDoor.G
open Go.RowKit Go.PlainAid
set_option linter.unusedVariables false

/-- whether there is a cell at of a region -/
def ldB (n : Nat) (f s p : Int) : Bool := decide (0 ≤ p ∧ p < (cutN n f s : Int))
def ldX (l : List Int) (f s p : Int) : Int := if 0 ≤ p ∧ p < (cutN l.length f s : Int) then l.getD (f + p).toNat 0 else 0
def stL (l : List Int) (f s p x : Int) : List Int := if 0 ≤ p ∧ p < (cutN l.length f s : Int) then l.set (f + p).toNat (x % 65536) else l
/-- the cells of a region that there are -/
def ceL (l : List Int) (f s : Int) : List Int := (l.drop f.toNat).take (cutN l.length f s)
/-- all of these 0 -/
def clL (l : List Int) (f s : Int) : List Int := l.take f.toNat ++ (List.replicate (cutN l.length f s) 0 ++ l.drop (f.toNat + cutN l.length f s))

theorem arena_start (w : World) (u x y : Value) (t r : TypeId) :
    ((w.alloc (.cells #[u] t)).alloc (.cells #[x, y] r)).heap[w.heap.size]? = some (.cells #[u] t) ∧ ((w.alloc (.cells #[u] t)).alloc (.cells #[x, y] r)).heap[w.heap.size + 1]? = some (.cells #[x, y] r) ∧ Below w.heap.size w ((w.alloc (.cells #[u] t)).alloc (.cells #[x, y] r)) := by
  refine ⟨(Below.heap_alloc _ _ _ (by simp)).trans (heap_new w _), ?_, ((Below.refl _ _).alloc (Nat.le_refl _) _).alloc (by simp) _⟩
  have := heap_new (w.alloc (.cells #[u] t)) (.cells #[x, y] r)
  simpa using this

/-- StoreCell's road up to the cut: the copy lies in a block of its own, the argument's box points to it -/
theorem set1_row {w : World} {k i : Nat} {cs : Array Value} {t : TypeId} {x : Value} (h : w.heap[k]? = some (.cells cs t)) : (w.setCell ⟨k, i, none⟩ x).heap[k]? = some (.cells (cs.setIfInBounds i x) t) := by
  simp [World.setCell, Array.getElem?_modify, h]
theorem set_other {w : World} {k j i : Nat} {x : Value} {o : Obj} (h : w.heap[j]? = some o) (hj : j ≠ k) : (w.setCell ⟨k, i, none⟩ x).heap[j]? = some o :=
  (Below.heap_setCell _ _ _ _ hj).trans h
theorem size_set (w : World) (p : Addr) (x : Value) : (w.setCell p x).heap.size = w.heap.size := by simp

theorem arena3_start (w : World) (u x y z : Value) (t r : TypeId) :
    (((w.alloc (.cells #[u] t)).alloc (.cells #[x, y] r)).alloc (.cells #[z] t)).heap[w.heap.size]? = some (.cells #[u] t) ∧ (((w.alloc (.cells #[u] t)).alloc (.cells #[x, y] r)).alloc (.cells #[z] t)).heap[w.heap.size + 1]? = some (.cells #[x, y] r) ∧ (((w.alloc (.cells #[u] t)).alloc (.cells #[x, y] r)).alloc (.cells #[z] t)).heap[w.heap.size + 2]? = some (.cells #[z] t) ∧ Below w.heap.size w (((w.alloc (.cells #[u] t)).alloc (.cells #[x, y] r)).alloc (.cells #[z] t)) ∧ (((w.alloc (.cells #[u] t)).alloc (.cells #[x, y] r)).alloc (.cells #[z] t)).heap.size = w.heap.size + 3 := by
  obtain ⟨h1, h2, h3⟩ := arena_start w u x y t r
  refine ⟨(Below.heap_alloc _ _ _ (row_lt h1)).trans h1, (Below.heap_alloc _ _ _ (row_lt h2)).trans h2, ?_, h3.alloc h3.size _, by simp⟩
  have := heap_new ((w.alloc (.cells #[u] t)).alloc (.cells #[x, y] r)) (.cells #[z] t)
  simpa using this

theorem stL_yes {l : List Int} {fn j n k : Nat} {s x : Int} (hl : l.length = n) (hk : cutN n (fn : Int) s = k) (hj : j < k) : stL l (fn : Int) s (j : Int) x = l.set (fn + j) (x % 65536) ∧ ldB n (fn : Int) s (j : Int) = true := by
  subst hl
  refine ⟨?_, decide_eq_true ⟨by omega, by omega⟩⟩
  unfold stL
  rw [if_pos ⟨by omega, by rw [hk]; omega⟩, show ((fn : Int) + (j : Int)).toNat = fn + j by omega]
theorem stL_no {l : List Int} {n k : Nat} {f s p x : Int} (hl : l.length = n) (hk : cutN n f s = k) (hp : ¬ (0 ≤ p ∧ p < (k : Int))) : stL l f s p x = l ∧ ldB n f s p = false := by
  subst hl
  refine ⟨?_, decide_eq_false (by rw [hk]; exact hp)⟩
  unfold stL
  rw [if_neg (by rw [hk]; exact hp)]

theorem made_ints (n : Nat) : madeCells #[.int .i64 0] n = (intsV (List.replicate n 0)).toArray := by
  apply Array.ext
  · simp [madeCells, intsV]
  · intro j h1 h2
    simp [madeCells, intsV, Nat.mod_one]

/-- 64 cells of 0 -/
def z64 : List Int := List.replicate 64 0
theorem make64 (w : World) : (Instr.makeSlice 26 (.int .i64 64) (.int .i64 64)).run Tryd.prog w = .ok (.slice (some ⟨w.heap.size, 0, none⟩) 64 64) (w.alloc (.cells (intsV z64).toArray 3)) := by
  have h := run_make_row' (P := Tryd.prog) 26 3 (.int .i64 0) 8 Tryd.underlying26 info3 rfl .i64 .i64 64 (by omega) (by omega) w
  rw [made_ints] at h
  exact h

theorem row_alloc2 (w : World) (o : Obj) (l : List Int) : RowAt ((w.alloc o).alloc (.cells (intsV l).toArray 3)) (w.heap.size + 1) l := by
  have := heap_new (w.alloc o) (.cells (intsV l).toArray 3)
  simpa [RowAt] using this

end Go.Proofs.YtckeffccoghgeaaDoor.G

namespace Go.Proofs.YtckeffccoghgeaaDoor.G
open Go.RowKit Go.PlainAid
set_option linter.unusedVariables false

/-- where the cell at of a region lies, -1 where there is none -/
def atP (n : Nat) (f s p : Int) : Int := if 0 ≤ p ∧ p < (cutN n f s : Int) then f + p else -1
theorem atP_yes {n : Nat} {f s p : Int} (h0 : 0 ≤ p) (h1 : p < s) (h2 : 0 ≤ f) (h3 : f ≤ (n : Int) - 1) (h4 : p < (n : Int) - f) : atP n f s p = f + p := by
  have hc := cutN_yes (n := n) (f := f) (s := s) (by omega)
  unfold atP
  rw [hc, if_pos (by omega)]
theorem atP_no {n : Nat} {f s p : Int} (h : ¬ (0 ≤ p ∧ p < s ∧ 0 ≤ f ∧ f ≤ (n : Int) - 1 ∧ p < (n : Int) - f)) : atP n f s p = -1 := by
  unfold atP
  by_cases hc : s < 1 ∨ f < 0 ∨ (n : Int) < f
  · rw [cutN_no hc, if_neg (by omega)]
  · rw [cutN_yes hc, if_neg (by omega)]

theorem own_built3 (w : World) (B : Nat) (hB : B ≤ w.heap.size) : (w.alloc (.cells #[] 3)).ownsRow B 3 1 (.slice (some ⟨w.heap.size, 0, none⟩) 0 0) 0 [] :=
  ⟨rfl, Or.inr ⟨_, 0, #[], rfl, hB, by show (w.heap.push _)[w.heap.size]? = _; simp, Nat.le_refl _, by decide, rfl, rfl⟩⟩

theorem own_lt {w : World} {B e z n : Nat} {v : Value} {xs : List Value} (h : w.ownsRow B e z v n xs) : ∀ g, v.ownBlock = some g → g < w.heap.size := fun k hk => (h.lt k hk).2
theorem own_ge {w : World} {B e z n : Nat} {v : Value} {xs : List Value} (h : w.ownsRow B e z v n xs) : ∀ g, v.ownBlock = some g → B ≤ g := fun k hk => (h.lt k hk).1
/-- what lies below the line stays owned -/
theorem own_keep {w w' : World} {B C e z n : Nat} {v : Value} {xs : List Value} (h : w.ownsRow B e z v n xs) (hb : Below C w w') (hlt : ∀ g, v.ownBlock = some g → g < C) : w'.ownsRow B e z v n xs := by
  refine ⟨h.1, ?_⟩
  rcases h.2 with h2 | ⟨g, cap, cur, rfl, hg, hh, h3⟩
  · exact .inl h2
  · exact .inr ⟨g, cap, cur, rfl, hg, by rw [hb.block g (hlt g rfl)]; exact hh, h3⟩
theorem own_mono {w : World} {B C e z n : Nat} {v : Value} {xs : List Value} (h : w.ownsRow B e z v n xs) (hC : C ≤ B) : w.ownsRow C e z v n xs := by
  refine ⟨h.1, ?_⟩
  rcases h.2 with h2 | ⟨g, cap, cur, rfl, hg, h3⟩
  · exact .inl h2
  · exact .inr ⟨g, cap, cur, rfl, by omega, h3⟩
theorem own_shape {w : World} {B e z n : Nat} {v : Value} {xs : List Value} (h : w.ownsRow B e z v n xs) : ∃ a cap, v = .slice a n cap := by
  rcases h.2 with ⟨rfl, e⟩ | ⟨g, cap, cur, rfl, _⟩
  · exact ⟨none, 0, by rw [e]⟩
  · exact ⟨_, cap, rfl⟩
theorem own_setOther {w : World} {B e z n k i : Nat} {v x : Value} {xs : List Value} (h : w.ownsRow B e z v n xs) (hk : ∀ g, v.ownBlock = some g → g ≠ k) : (w.setCell ⟨k, i, none⟩ x).ownsRow B e z v n xs := by
  refine ⟨h.1, ?_⟩
  rcases h.2 with h2 | ⟨g, cap, cur, rfl, hg, hh, h3⟩
  · exact .inl h2
  · exact .inr ⟨g, cap, cur, rfl, hg, set_other hh (hk g rfl), h3⟩

/-- a block stays behind what only grows, and writes another one -/
theorem grown_row {w w' : World} {r : Option Nat} {k : Nat} {o : Obj} (hg : w.grownBy w' r) (h : w.heap[k]? = some o) (hne : r ≠ some k) : w'.heap[k]? = some o :=
  (hg.block k (row_lt h) (fun e => hne e.symm)).trans h

end Go.Proofs.YtckeffccoghgeaaDoor.G

namespace Go.Proofs.YtckeffccoghgeaaDoor.G
open Go.RowKit Go.PlainAid
set_option linter.unusedVariables false

theorem own_nothing (w : World) (B : Nat) (a : Option Addr) (hB : B ≤ w.heap.size) : (w.alloc (.cells #[] 3)).ownsRow B 3 1 (.slice (some ⟨w.heap.size, 0, none⟩) 0 0) 0 (intsV []) := own_built3 w B hB

theorem atP_in {n p : Nat} {f s : Int} (h : p < cutN n f s) : atP n f s (p : Int) = f + p := if_pos ⟨by omega, by omega⟩
theorem atP_out {n p : Nat} {f s : Int} (h : ¬ p < cutN n f s) : atP n f s (p : Int) = -1 := if_neg (by omega)

theorem own_put {w : World} {B n g c j : Nat} {l : List Int} {x : Int} (h : w.ownsRow B 3 1 (.slice (some ⟨g, 0, none⟩) n c) n (intsV l)) (hj : j < l.length) : (w.setCell ⟨g, j, none⟩ (.int .i64 x)).ownsRow B 3 1 (.slice (some ⟨g, 0, none⟩) n c) n (intsV (l.set j x)) := by
  have := (h.stored j (.int .i64 x)).1
  rw [intsV_set] at this
  exact this

theorem own_addr {w : World} {B e z n c : Nat} {q : Option Addr} {xs : List Value} (h : w.ownsRow B e z (.slice q n c) n xs) (h0 : 0 < n) : ∃ g, q = some ⟨g, 0, none⟩ ∧ B ≤ g := by
  rcases h.2 with ⟨hv, e⟩ | ⟨g, cap, cur, hv, hg, _⟩
  · omega
  · cases hv
    exact ⟨g, rfl, hg⟩
theorem own_at {w : World} {B n g c j : Nat} {l : List Int} (h : w.ownsRow B 3 1 (.slice (some ⟨g, 0, none⟩) n c) n (intsV l)) (hj : j < l.length) : w.cell? ⟨g, j, none⟩ = some (.int .i64 l[j]) ∧ w.frozen? ⟨g, j, none⟩ = false := by
  have hl : l.length = n := by have := h.1; rw [intsV_len] at this; omega
  refine ⟨?_, h.frozenAt j⟩
  rw [h.cellAt j (by omega)]
  simp [intsV, hj]

end Go.Proofs.YtckeffccoghgeaaDoor.G

namespace Go.Proofs.YtckeffccoghgeaaDoor.G
open Go.RowKit Go.PlainAid
set_option linter.unusedVariables false

set_option maxRecDepth 100000 in
set_option maxHeartbeats 400000 in
theorem eqInts (a b : Option Addr) (l : List Int) (n ca cb : Nat) (hl : l.length = n) (hn : n ≤ 1048576) (w : World) (ha : Rd w a l) (hb : Rd w b l) :
    Calls Tryd.prog 47 #[.slice a n ca, .slice b n cb] w fun e w' => e = .returned (.bool true) ∧ Below w.heap.size w w' := by
  by_cases hp : 0 < n
  · obtain ⟨g, o1, rfl, hcg⟩ := ha (by omega)
    obtain ⟨h, o2, rfl, hch⟩ := hb (by omega)
    have HA : Hid (∀ j (hj : j < l.length), w.cell? ⟨g, o1 + j, none⟩ = some (.int .i64 l[j])) := hcg
    have HB : Hid (∀ j (hj : j < l.length), w.cell? ⟨h, o2 + j, none⟩ = some (.int .i64 l[j])) := hch
    have HL : Hid (l.length = n) := hl
    clear ha hb hcg hch hl
    go_enter Tryd.func47, Tryd.ntmps47
    go_wp2
    go_loopw [5] (fun i wr => ∃ (j q : Nat), j ≤ n ∧ i = .int .i64 j ∧ wr = w.drewN q) (fun i _ => n - (intOf i).toNat)
    case atStart => exact ⟨0, 0, Nat.zero_le _, rfl, rfl⟩
    case round =>
      obtain ⟨j, q, hj, rfl, rfl⟩ := hrel
      by_cases hlt : j < n
      · have c1 := HA.out j (by have := HL.out; omega)
        have c2 := HB.out j (by have := HL.out; omega)
        generalize l[j]'(by have := HL.out; omega) = x at c1 c2
        have i0 : (0 : Int) ≤ (j : Int) := by omega
        have i1 : (j : Int) < (n : Int) := by omega
        go_wp2
        go_quiet (fail)
        go_wp2
        go_roundw
        case rel => exact ⟨j + 1, q + nq, by omega, by go_num, rfl⟩
        case measure => simp [intOf]; omega
      · go_wp2
        go_ret
        exact ⟨rfl, below_drewN (Below.refl _ _) _⟩
  · obtain rfl : n = 0 := by omega
    clear ha hb hp
    go_enter Tryd.func47, Tryd.ntmps47
    go_wp2
    go_rounds 1
    go_ret
    exact ⟨rfl, Below.refl _ _⟩

/-- the marks k, k + 1, .. -/
def marks (k n : Nat) : List Int := (List.range n).map fun j => ((k + j : Nat) : Int)
theorem marks_len (k n : Nat) : (marks k n).length = n := by simp [marks]
theorem marks_succ (k n : Nat) : marks k (n + 1) = marks k n ++ [((k + n : Nat) : Int)] := by simp [marks, List.range_succ]
theorem marks_at (k n j : Nat) (h : j < (marks k n).length) : (marks k n)[j] = ((k + j : Nat) : Int) := by simp [marks]
def mixed (l : List Int) (k j : Nat) : List Int := marks k j ++ l.drop j
theorem mixed_len {l : List Int} {k j : Nat} (h : j ≤ l.length) : (mixed l k j).length = l.length := by unfold mixed; rw [List.length_append, marks_len, List.length_drop]; omega
theorem mixed_zero (l : List Int) (k : Nat) : mixed l k 0 = l := by simp [mixed, marks]
theorem mixed_all (l : List Int) (k n : Nat) (h : l.length = n) : mixed l k n = marks k n := by unfold mixed; rw [List.drop_of_length_le (by omega)]; simp
theorem mixed_set {l : List Int} {k j : Nat} (h : j < l.length) : (mixed l k j).set j ((k + j : Nat) : Int) = mixed l k (j + 1) := by
  unfold mixed
  rw [List.drop_eq_getElem_cons h, List.set_append_right _ _ (by rw [marks_len]; exact Nat.le_refl _), marks_len, marks_succ, Nat.sub_self, List.set_cons_zero, List.append_assoc]
  rfl

theorem grown_trans' {w w1 w2 : World} {r : Option Nat} (h : w.grownBy w1 r) (k : w1.grownBy w2 r) : w.grownBy w2 r :=
  ⟨k.os.trans h.os, k.tape.trans h.tape, k.output.trans h.output, Nat.le_trans h.size k.size, fun j hj hne => (k.block j (Nat.lt_of_lt_of_le hj h.size) hne).trans (h.block j hj hne)⟩
theorem grown_put (w : World) (C i : Nat) (v : Value) : w.grownBy (w.setCell ⟨C, i, none⟩ v) (some C) :=
  ⟨rfl, rfl, rfl, by simp, fun k _ hne => heap_setCell_other w _ k v (fun e => hne (by rw [e]))⟩
theorem grown_keep {w w' : World} {g B : Nat} {l : List Int} {C : Nat} (h : RowAt w g l) (hg : w.grownBy w' (some C)) (hne : C ≠ g) : RowAt w' g l := grown_row hg h (fun e => hne (by cases e; rfl))

/-- the first j copied, the rest still 0 -/
def upto (l : List Int) (n j : Nat) : List Int := l.take j ++ List.replicate (n - j) 0
theorem upto_zero (l : List Int) (n : Nat) : upto l n 0 = List.replicate n 0 := by simp [upto]
theorem upto_len {l : List Int} {n j : Nat} (hl : l.length = n) (h : j ≤ n) : (upto l n j).length = n := by simp [upto]; omega
theorem upto_all {l : List Int} {n : Nat} (hl : l.length = n) : upto l n n = l := by simp [upto]; exact List.take_of_length_le (by omega)
theorem upto_set {l : List Int} {n j : Nat} (hl : l.length = n) (h : j < n) (hj : j < l.length) : (upto l n j).set j l[j] = upto l n (j + 1) := by
  have h1 : (l.take j).length = j := by simp; omega
  unfold upto
  obtain ⟨m, hm⟩ : ∃ m, n - j = m + 1 := ⟨n - j - 1, by omega⟩
  rw [hm, show n - (j + 1) = m by omega, List.replicate_succ, List.set_append_right _ _ (by omega), h1, Nat.sub_self, List.set_cons_zero, List.take_succ_eq_append_getElem hj, List.append_assoc]
  rfl

set_option maxRecDepth 100000 in
set_option maxHeartbeats 400000 in
theorem toI (a : Option Addr) (l : List Int) (n cap : Nat) (hl : l.length = n) (hn : n ≤ 1048576) (w : World) (hr : Rd w a l) :
    Calls Tryd.prog 36 #[.slice a n cap] w fun e w' => e = .returned (.slice (some ⟨w.heap.size, 0, none⟩) n n) ∧ RowAt w' w.heap.size l ∧ Below w.heap.size w w' := by
  have HL : Hid (l.length = n) := hl
  have HW0 : Hid (Below w.heap.size w (w.alloc (.cells (intsV (List.replicate n 0)).toArray 3))) := (Below.refl w.heap.size w).alloc (Nat.le_refl _) _
  have HROW0 : Hid (RowAt (w.alloc (.cells (intsV (List.replicate n 0)).toArray 3)) w.heap.size (upto l n 0)) := by rw [upto_zero]; exact heap_new w _
  have hmk := run_make_row' (P := Tryd.prog) 26 3 (.int .i64 0) 8 Tryd.underlying26 info3 rfl .i64 .i64 n (by omega) (by omega)
  rw [made_ints] at hmk
  clear hl
  by_cases hp : 0 < n
  · obtain ⟨g, off, rfl, hc⟩ := hr (by have := HL.out; omega)
    have HR : Hid (∀ j (hj : j < l.length), w.cell? ⟨g, off + j, none⟩ = some (.int .i64 l[j])) := hc
    clear hr hc
    go_enter Tryd.func36, Tryd.ntmps36
    go_wp2
    go_loopw [4] (fun i wr => ∃ j : Nat, j ≤ n ∧ i = .int .i64 j ∧ Hid (RowAt wr w.heap.size (upto l n j)) ∧ Hid (Below w.heap.size w wr)) (fun i _ => n - (intOf i).toNat)
    case atStart => exact ⟨0, Nat.zero_le _, rfl, HROW0, HW0⟩
    case round =>
      clear HROW0 HW0
      obtain ⟨j, hj, rfl, HROW, HW⟩ := hrel
      by_cases hlt : j < n
      · have hjl : j < l.length := by have := HL.out; omega
        have c1 := (HW.out.cell (p := ⟨g, off + j, none⟩) (World.block_lt_of_cell? w ⟨g, off + j, none⟩ (HR.out j hjl))).trans (HR.out j hjl)
        have c2 := HROW.out.cell j (by rw [upto_len HL.out hj]; exact hlt)
        have c3 := HROW.out.free j
        have HROW' : Hid (RowAt (wr.setCell ⟨w.heap.size, j, none⟩ (.int .i64 l[j])) w.heap.size (upto l n (j + 1))) := by
          have := HROW.out.set j l[j]
          rw [upto_set HL.out hlt hjl] at this
          exact this
        have HW' : Hid (Below w.heap.size w (wr.setCell ⟨w.heap.size, j, none⟩ (.int .i64 l[j]))) := HW.out.setCell (Nat.le_refl _) _
        generalize (upto l n j)[j]'(by rw [upto_len HL.out hj]; exact hlt) = old at c2
        generalize l[j] = x at c1 HROW' HW'
        clear hjl HW HROW
        go_wp2
        go_roundw
        case rel => exact ⟨j + 1, by omega, by go_num, HROW', HW'⟩
        case measure => simp [intOf]; omega
      · obtain rfl : j = n := by omega
        have HROW' : Hid (RowAt wr w.heap.size l) := by have := HROW.out; rw [upto_all HL.out] at this; exact this
        clear HROW
        go_wp2
        go_ret
        exact ⟨rfl, HROW'.out, HW.out⟩
  · obtain rfl : n = 0 := by omega
    have HROW' : Hid (RowAt (w.alloc (.cells (intsV (List.replicate 0 0)).toArray 3)) w.heap.size l) := by have := HROW0.out; rw [upto_all HL.out] at this; exact this
    clear hr hp HROW0
    have hmk0 : ∀ w : World, (Instr.makeSlice 26 (.int .i64 0) (.int .i64 0)).run Tryd.prog w = .ok (.slice (some ⟨w.heap.size, 0, none⟩) 0 0) (w.alloc (.cells (intsV (List.replicate 0 0)).toArray 3)) := hmk
    clear hmk
    go_enter Tryd.func36, Tryd.ntmps36
    go_wp2
    go_rounds 1
    go_ret
    exact ⟨rfl, HROW'.out, HW0.out⟩

theorem two_start (w : World) (u x y : Value) (t r q : TypeId) :
    (((w.alloc (.cells #[u] t)).alloc (.cells #[x] r)).alloc (.cells #[y] q)).heap[w.heap.size + 1]? = some (.cells #[x] r) ∧ (((w.alloc (.cells #[u] t)).alloc (.cells #[x] r)).alloc (.cells #[y] q)).heap[w.heap.size + 2]? = some (.cells #[y] q) ∧ Below w.heap.size w (((w.alloc (.cells #[u] t)).alloc (.cells #[x] r)).alloc (.cells #[y] q)) ∧ (((w.alloc (.cells #[u] t)).alloc (.cells #[x] r)).alloc (.cells #[y] q)).heap.size = w.heap.size + 3 := by
  have h1 := heap_new (w.alloc (.cells #[u] t)) (.cells #[x] r)
  have h2 := heap_new ((w.alloc (.cells #[u] t)).alloc (.cells #[x] r)) (.cells #[y] q)
  refine ⟨(Below.heap_alloc _ _ _ (by simp)).trans (by simpa using h1), by simpa using h2, (((Below.refl _ _).alloc (Nat.le_refl _) _).alloc (by simp) _).alloc (by simp; omega) _, by simp⟩

theorem szI (a : Option Addr) (n cap : Nat) (hn : n ≤ 9223372036854775807) (w : World) : Calls Tryd.prog 27 #[.slice a n cap, .int .i64 1048576] w fun e w' => e = .returned (.int .i64 (if n ≤ 1048576 then 1048576 - (n : Int) else -1)) ∧ w' = w := by
  by_cases h : n ≤ 1048576
  · rw [if_pos h]
    go_enter Tryd.func27, Tryd.ntmps27
    go_wp2
    go_ret
    exact ⟨rfl, rfl⟩
  · rw [if_neg h]
    go_enter Tryd.func27, Tryd.ntmps27
    go_wp2
    go_ret
    exact ⟨rfl, rfl⟩

theorem atP_neg (n : Nat) (f s p : Int) : atP n f s p < 0 ↔ ¬ (0 ≤ p ∧ p < (cutN n f s : Int)) := by
  unfold atP
  split
  · rename_i h
    have := cutN_in (n := n) (f := f) (s := s) (by omega)
    omega
  · omega

theorem mod_lo (n : Int) (h : n.tmod 65536 < 0) : n.tmod 65536 + 65536 = n % 65536 := by
  rw [Int.tmod_eq_emod] at h ⊢
  split at h
  · rename_i hh
    omega
  · rename_i hh
    rw [if_neg hh]
    simp
theorem mod_hi (n : Int) (h : ¬ n.tmod 65536 < 0) : n.tmod 65536 = n % 65536 := by
  have h1 : n.tmod 65536 < 65536 := Int.tmod_lt_of_pos n (by decide)
  have h2 : n = 65536 * (n.tdiv 65536) + n.tmod 65536 := (Int.mul_tdiv_add_tmod n 65536).symm
  omega
end Go.Proofs.YtckeffccoghgeaaDoor.G

namespace Go.Proofs.YtckeffccoghgeaaDoor.G
open Go.ChangeShapes Go.WideShapes Go.ChangeAt Go.RowKit Go.PlainAid
set_option linter.unusedVariables false

theorem cells3 : Tryd.prog.cellsOf 3 = 1 := by kernel_rfl
theorem cellsInts : Tryd.prog.cellsOf 26 = 1 := by kernel_rfl
/-- what the walk is told of a list of numbers that came in -/
def IsRow (k : IntKind) (w : World) (a : Option Addr) (len cap : Nat) (zs : List Int) : Prop :=
  (a = none ∧ len = 0 ∧ cap = 0 ∧ zs = []) ∨
  ∃ x, a = some x ∧ len ≤ cap ∧ cap ≤ maxLen ∧ zs.length = cap ∧ (∀ i, i < zs.length → w.cell? (x.add i) = some (.int k (zs.getD i 0))) ∧ ∀ n ∈ zs, (Lit.int k n).wf = true

theorem rd_of_row {w : World} {a : Option Addr} {len cap : Nat} {zs : List Int} (h : IsRow .i64 w a len cap zs) : Rd w a (zs.take len) ∧ (zs.take len).length = len ∧ len ≤ cap ∧ len ≤ 9223372036854775807 := by
  rcases h with ⟨rfl, rfl, rfl, rfl⟩ | ⟨x, rfl, h1, h2, h3, h4, h5⟩
  · exact ⟨fun h => by simp at h, rfl, Nat.le_refl _, by omega⟩
  · have hl : (zs.take len).length = len := by simp; omega
    unfold maxLen at h2
    refine ⟨fun h0 => ?_, hl, h1, by omega⟩
    obtain ⟨b, off, rfl, hc⟩ := ints_at h4 (by omega)
    refine ⟨b, off, rfl, fun j hj => ?_⟩
    have hj' : j < zs.length := by omega
    rw [hc j hj']
    simp [List.getElem?_eq_getElem hj']

/-- what stands while a law is walked: its two boxes, what came in -/
def LL (w W : World) (a : Option Addr) (l : List Int) : Prop := Below w.heap.size w W ∧ Rd W a l ∧ w.heap.size + 1 < W.heap.size
/-- .. as the drawn regions want it -/
def SL (w W : World) (a : Option Addr) (l : List Int) (u x y : Value) : Prop := W.cell? ⟨w.heap.size, 0, none⟩ = some u ∧ W.cell? ⟨w.heap.size + 1, 0, none⟩ = some x ∧ W.cell? ⟨w.heap.size + 1, 1, none⟩ = some y ∧ LL w W a l
theorem SL.keep {w W W' : World} {a : Option Addr} {l : List Int} {u x y : Value} (h : SL w W a l u x y) (hb : Below W.heap.size W W') : SL w W' a l u x y := by
  obtain ⟨h1, h2, h3, h4, h5, h6⟩ := h
  have hs := hb.size
  exact ⟨(hb.cell (p := ⟨w.heap.size, 0, none⟩) (show w.heap.size < W.heap.size by omega)).trans h1, (hb.cell (p := ⟨w.heap.size + 1, 0, none⟩) h6).trans h2, (hb.cell (p := ⟨w.heap.size + 1, 1, none⟩) h6).trans h3, h4.trans (hb.mono h4.size), h5.keep hb (Nat.le_refl _), by omega⟩
theorem sl_keep {w W W' : World} {a : Option Addr} {l : List Int} {u x y : Value} (hb : Below W.heap.size W W') (h : W.cell? ⟨w.heap.size, 0, none⟩ = some u ∧ W.cell? ⟨w.heap.size + 1, 0, none⟩ = some x ∧ W.cell? ⟨w.heap.size + 1, 1, none⟩ = some y ∧ LL w W a l) :
    W'.cell? ⟨w.heap.size, 0, none⟩ = some u ∧ W'.cell? ⟨w.heap.size + 1, 0, none⟩ = some x ∧ W'.cell? ⟨w.heap.size + 1, 1, none⟩ = some y ∧ LL w W' a l := SL.keep h hb
theorem sl_drew {w W : World} {a : Option Addr} {l : List Int} {u x y : Value} (h : SL w W a l u x y) : W.drew.cell? ⟨w.heap.size, 0, none⟩ = some u ∧ W.drew.cell? ⟨w.heap.size + 1, 0, none⟩ = some x ∧ W.drew.cell? ⟨w.heap.size + 1, 1, none⟩ = some y ∧ LL w W.drew a l :=
  ⟨h.1, h.2.1, h.2.2.1, h.2.2.2.1.drew, h.2.2.2.2.1, h.2.2.2.2.2⟩
theorem sl_rd {w W : World} {a : Option Addr} {l : List Int} {u x y : Value} (h : W.cell? ⟨w.heap.size, 0, none⟩ = some u ∧ W.cell? ⟨w.heap.size + 1, 0, none⟩ = some x ∧ W.cell? ⟨w.heap.size + 1, 1, none⟩ = some y ∧ LL w W a l) : Rd W a l := h.2.2.2.2.1
theorem sl_back {w W : World} {a : Option Addr} {l : List Int} {u x y : Value} (h : W.cell? ⟨w.heap.size, 0, none⟩ = some u ∧ W.cell? ⟨w.heap.size + 1, 0, none⟩ = some x ∧ W.cell? ⟨w.heap.size + 1, 1, none⟩ = some y ∧ LL w W a l) : SL w W a l u x y := h
theorem SL.alloc {w W : World} {a : Option Addr} {l : List Int} {u x y : Value} (h : SL w W a l u x y) (o : Obj) : SL w (W.alloc o) a l u x y := h.keep ((Below.refl _ _).alloc (Nat.le_refl _) _)
theorem sl_start (w : World) (a : Option Addr) (l : List Int) (u x y : Value) (t r : TypeId) (hr : Rd w a l) : SL w ((w.alloc (.cells #[u] t)).alloc (.cells #[x, y] r)) a l u x y := by
  obtain ⟨h1, h2, h3⟩ := arena_start w u x y t r
  have c2 := row2_cells h2
  exact ⟨(row1_cells h1).1, c2.1, c2.2.1, h3, hr.keep h3 (Nat.le_refl _), by simp⟩

/-- .. and the box of what was handed to the program -/
def LX (w W : World) (a : Option Addr) (l : List Int) (b g : Nat) : Prop := LL w W a l ∧ RowAt W g l ∧ b < W.heap.size ∧ w.heap.size + 1 < b ∧ w.heap.size ≤ g
def SX (w W : World) (a : Option Addr) (l : List Int) (u x y z : Value) (b g : Nat) : Prop := W.cell? ⟨b, 0, none⟩ = some z ∧ W.cell? ⟨w.heap.size, 0, none⟩ = some u ∧ W.cell? ⟨w.heap.size + 1, 0, none⟩ = some x ∧ W.cell? ⟨w.heap.size + 1, 1, none⟩ = some y ∧ LX w W a l b g
theorem SX.sl {w W : World} {a : Option Addr} {l : List Int} {u x y z : Value} {b g : Nat} (h : SX w W a l u x y z b g) : SL w W a l u x y := ⟨h.2.1, h.2.2.1, h.2.2.2.1, h.2.2.2.2.1⟩
theorem SX.row {w W : World} {a : Option Addr} {l : List Int} {u x y z : Value} {b g : Nat} (h : SX w W a l u x y z b g) : RowAt W g l := h.2.2.2.2.2.1
theorem SX.below {w W : World} {a : Option Addr} {l : List Int} {u x y z : Value} {b g : Nat} (h : SX w W a l u x y z b g) : Below w.heap.size w W := h.2.2.2.2.1.1
theorem SX.mk' {w W : World} {a : Option Addr} {l : List Int} {u x y : Value} {g : Nat} {z : Value} {t : TypeId} (h : SL w W a l u x y) (hr : RowAt W g l) (hg : w.heap.size ≤ g) : SX w (W.alloc (.cells #[z] t)) a l u x y z W.heap.size g := by
  have h2 := h.alloc (.cells #[z] t)
  have hs := h.2.2.2.2.2
  exact ⟨(row1_cells (heap_new W (.cells #[z] t))).1, h2.1, h2.2.1, h2.2.2.1, h2.2.2.2, (Below.heap_alloc _ _ _ hr.lt).trans hr, by simp, hs, hg⟩
theorem SX.keep {w W W' : World} {a : Option Addr} {l : List Int} {u x y z : Value} {b g : Nat} (h : SX w W a l u x y z b g) (hb : Below W.heap.size W W') : SX w W' a l u x y z b g := by
  have h2 := h.sl.keep hb
  have hs := hb.size
  obtain ⟨h0, _, _, _, hx⟩ := h
  obtain ⟨_, hr, hb1, hb2, hb3⟩ := hx
  exact ⟨(hb.cell (p := ⟨b, 0, none⟩) hb1).trans h0, h2.1, h2.2.1, h2.2.2.1, h2.2.2.2, hr.keep hb hr.lt, by omega, hb2, hb3⟩
theorem sx_keep {w W W' : World} {a : Option Addr} {l : List Int} {u x y z : Value} {b g : Nat} (hb : Below W.heap.size W W') (h : W.cell? ⟨b, 0, none⟩ = some z ∧ W.cell? ⟨w.heap.size, 0, none⟩ = some u ∧ W.cell? ⟨w.heap.size + 1, 0, none⟩ = some x ∧ W.cell? ⟨w.heap.size + 1, 1, none⟩ = some y ∧ LX w W a l b g) :
    W'.cell? ⟨b, 0, none⟩ = some z ∧ W'.cell? ⟨w.heap.size, 0, none⟩ = some u ∧ W'.cell? ⟨w.heap.size + 1, 0, none⟩ = some x ∧ W'.cell? ⟨w.heap.size + 1, 1, none⟩ = some y ∧ LX w W' a l b g := SX.keep h hb
theorem sx_drew {w W : World} {a : Option Addr} {l : List Int} {u x y z : Value} {b g : Nat} (h : SX w W a l u x y z b g) : W.drew.cell? ⟨b, 0, none⟩ = some z ∧ W.drew.cell? ⟨w.heap.size, 0, none⟩ = some u ∧ W.drew.cell? ⟨w.heap.size + 1, 0, none⟩ = some x ∧ W.drew.cell? ⟨w.heap.size + 1, 1, none⟩ = some y ∧ LX w W.drew a l b g :=
  ⟨h.1, h.2.1, h.2.2.1, h.2.2.2.1, ⟨h.2.2.2.2.1.1.drew, h.2.2.2.2.1.2.1, h.2.2.2.2.1.2.2⟩, h.2.2.2.2.2.1, h.2.2.2.2.2.2⟩
theorem sx_rd {w W : World} {a : Option Addr} {l : List Int} {u x y z : Value} {b g : Nat} (h : W.cell? ⟨b, 0, none⟩ = some z ∧ W.cell? ⟨w.heap.size, 0, none⟩ = some u ∧ W.cell? ⟨w.heap.size + 1, 0, none⟩ = some x ∧ W.cell? ⟨w.heap.size + 1, 1, none⟩ = some y ∧ LX w W a l b g) : Rd W a l := h.2.2.2.2.1.2.1
theorem sx_row {w W : World} {a : Option Addr} {l : List Int} {u x y z : Value} {b g : Nat} (h : W.cell? ⟨b, 0, none⟩ = some z ∧ W.cell? ⟨w.heap.size, 0, none⟩ = some u ∧ W.cell? ⟨w.heap.size + 1, 0, none⟩ = some x ∧ W.cell? ⟨w.heap.size + 1, 1, none⟩ = some y ∧ LX w W a l b g) : Rd W (some ⟨g, 0, none⟩) l := h.2.2.2.2.2.1.rd
theorem sx_back {w W : World} {a : Option Addr} {l : List Int} {u x y z : Value} {b g : Nat} (h : W.cell? ⟨b, 0, none⟩ = some z ∧ W.cell? ⟨w.heap.size, 0, none⟩ = some u ∧ W.cell? ⟨w.heap.size + 1, 0, none⟩ = some x ∧ W.cell? ⟨w.heap.size + 1, 1, none⟩ = some y ∧ LX w W a l b g) : SX w W a l u x y z b g := h

theorem undrew {W W' : World} (h : Below W.drew.heap.size W.drew W') : Below W.heap.size W W' := ((Below.refl W.heap.size W).drew).trans h
theorem own_rd' {w : World} {B n c : Nat} {q : Option Addr} {l : List Int} (h : w.ownsRow B 3 1 (.slice q n c) n (intsV l)) : Rd w q l := by
  obtain ⟨a, cap, hv, _, _, hr⟩ := own_rd h
  cases hv
  exact hr
theorem own_grown {w w' : World} {B C e z n : Nat} {v : Value} {xs : List Value} (h : w.ownsRow B e z v n xs) (hg : w.grownBy w' (some C)) (hne : ∀ g, v.ownBlock = some g → g ≠ C) : w'.ownsRow B e z v n xs :=
  h.kept hg (by
    cases hv : v.ownBlock with
    | none => exact .inl rfl
    | some g => exact .inr (fun e => hne g hv (by cases e; rfl)))
theorem SL.grown {w W W' : World} {a : Option Addr} {l : List Int} {u x y : Value} {g : Nat} (h : SL w W a l u x y) (hr : Rd w a l) (hg : W.grownBy W' (some g)) (h2 : w.heap.size + 2 ≤ g) : SL w W' a l u x y := by
  obtain ⟨h1, h3, h4, h5, h6, h7⟩ := h
  have hs := hg.size
  have hb : Below w.heap.size w W' := h5.grown hg h5.size (fun k hk => by cases hk; omega)
  exact ⟨(hg.cell_far ⟨w.heap.size, 0, none⟩ (show w.heap.size < W.heap.size by omega) (by simp; omega)).trans h1, (hg.cell_far ⟨w.heap.size + 1, 0, none⟩ h7 (by simp; omega)).trans h3, (hg.cell_far ⟨w.heap.size + 1, 1, none⟩ h7 (by simp; omega)).trans h4, hb, hr.keep hb (Nat.le_refl _), by omega⟩
theorem SL.set {w W : World} {a : Option Addr} {l : List Int} {u x y z : Value} {b i : Nat} (h : SL w W a l u x y) (hr : Rd w a l) (hb : w.heap.size + 2 ≤ b) : SL w (W.setCell ⟨b, i, none⟩ z) a l u x y :=
  h.grown hr (grown_put _ _ _ _) hb
theorem RowAt.alloc {w : World} {g : Nat} {l : List Int} (h : RowAt w g l) (o : Obj) : RowAt (w.alloc o) g l := (Below.heap_alloc _ _ _ h.lt).trans h
theorem RowAt.on {w w' : World} {g : Nat} {l : List Int} (h : RowAt w g l) (hb : Below w.heap.size w w') : RowAt w' g l := h.keep hb h.lt
theorem row_on {w w' : World} {k : Nat} {o : Obj} (h : w.heap[k]? = some o) (hb : Below w.heap.size w w') : w'.heap[k]? = some o := row_after h hb (row_lt h)
theorem own_on {w w' : World} {B e z n : Nat} {v : Value} {xs : List Value} (h : w.ownsRow B e z v n xs) (hb : Below w.heap.size w w') : w'.ownsRow B e z v n xs := own_keep h hb (own_lt h)
theorem bel_on {w W W' : World} {B : Nat} (hB : B ≤ w.heap.size) (h : Below B w W) (hb : Below W.heap.size W W') : Below B w W' := h.trans (hb.mono (Nat.le_trans hB h.size))

/-- the cells that a drawn region reads, and that all is kept since it began -/
theorem c3_keep {w W0 W' : World} {a : Option Addr} {l : List Int} {u x y : Value} (h : SL w W0 a l u x y) (hB : Below W0.heap.size W0 W') :
    W'.cell? ⟨w.heap.size, 0, none⟩ = some u ∧ W'.cell? ⟨w.heap.size + 1, 0, none⟩ = some x ∧ W'.cell? ⟨w.heap.size + 1, 1, none⟩ = some y ∧ Below W0.heap.size W0 W' := by
  have h2 := h.keep hB
  exact ⟨h2.1, h2.2.1, h2.2.2.1, hB⟩
theorem c3_on {w W0 W W' : World} {u x y : Value} (hb : Below W.heap.size W W') (h : W.cell? ⟨w.heap.size, 0, none⟩ = some u ∧ W.cell? ⟨w.heap.size + 1, 0, none⟩ = some x ∧ W.cell? ⟨w.heap.size + 1, 1, none⟩ = some y ∧ Below W0.heap.size W0 W) : Below W0.heap.size W0 W' := bel_on (Nat.le_refl _) h.2.2.2 hb
theorem c3_bel {w W0 W : World} {u x y : Value} (h : W.cell? ⟨w.heap.size, 0, none⟩ = some u ∧ W.cell? ⟨w.heap.size + 1, 0, none⟩ = some x ∧ W.cell? ⟨w.heap.size + 1, 1, none⟩ = some y ∧ Below W0.heap.size W0 W) : Below W0.heap.size W0 W := h.2.2.2
theorem c3_alloc {w W0 W : World} {a : Option Addr} {l : List Int} {u x y : Value} (hs : SL w W0 a l u x y) (h : W.cell? ⟨w.heap.size, 0, none⟩ = some u ∧ W.cell? ⟨w.heap.size + 1, 0, none⟩ = some x ∧ W.cell? ⟨w.heap.size + 1, 1, none⟩ = some y ∧ Below W0.heap.size W0 W) (o : Obj) :
    (W.alloc o).cell? ⟨w.heap.size, 0, none⟩ = some u ∧ (W.alloc o).cell? ⟨w.heap.size + 1, 0, none⟩ = some x ∧ (W.alloc o).cell? ⟨w.heap.size + 1, 1, none⟩ = some y ∧ Below W0.heap.size W0 (W.alloc o) := c3_keep hs (h.2.2.2.alloc h.2.2.2.size o)
theorem c3_rd {w W0 W : World} {a : Option Addr} {l : List Int} {u x y : Value} (hs : SL w W0 a l u x y) (h : W.cell? ⟨w.heap.size, 0, none⟩ = some u ∧ W.cell? ⟨w.heap.size + 1, 0, none⟩ = some x ∧ W.cell? ⟨w.heap.size + 1, 1, none⟩ = some y ∧ Below W0.heap.size W0 W) : Rd W a l := (hs.keep h.2.2.2).2.2.2.2.1
theorem c4_keep {w W0 W' : World} {a : Option Addr} {l : List Int} {u x y z : Value} {b g : Nat} (h : SX w W0 a l u x y z b g) (hB : Below W0.heap.size W0 W') :
    W'.cell? ⟨b, 0, none⟩ = some z ∧ W'.cell? ⟨w.heap.size, 0, none⟩ = some u ∧ W'.cell? ⟨w.heap.size + 1, 0, none⟩ = some x ∧ W'.cell? ⟨w.heap.size + 1, 1, none⟩ = some y ∧ Below W0.heap.size W0 W' := by
  have h2 := h.keep hB
  exact ⟨h2.1, h2.2.1, h2.2.2.1, h2.2.2.2.1, hB⟩
theorem c4_on {w W0 W W' : World} {u x y z : Value} {b : Nat} (hb : Below W.heap.size W W') (h : W.cell? ⟨b, 0, none⟩ = some z ∧ W.cell? ⟨w.heap.size, 0, none⟩ = some u ∧ W.cell? ⟨w.heap.size + 1, 0, none⟩ = some x ∧ W.cell? ⟨w.heap.size + 1, 1, none⟩ = some y ∧ Below W0.heap.size W0 W) : Below W0.heap.size W0 W' := bel_on (Nat.le_refl _) h.2.2.2.2 hb
theorem c4_bel {w W0 W : World} {u x y z : Value} {b : Nat} (h : W.cell? ⟨b, 0, none⟩ = some z ∧ W.cell? ⟨w.heap.size, 0, none⟩ = some u ∧ W.cell? ⟨w.heap.size + 1, 0, none⟩ = some x ∧ W.cell? ⟨w.heap.size + 1, 1, none⟩ = some y ∧ Below W0.heap.size W0 W) : Below W0.heap.size W0 W := h.2.2.2.2
theorem c4_alloc {w W0 W : World} {a : Option Addr} {l : List Int} {u x y z : Value} {b g : Nat} (hs : SX w W0 a l u x y z b g) (h : W.cell? ⟨b, 0, none⟩ = some z ∧ W.cell? ⟨w.heap.size, 0, none⟩ = some u ∧ W.cell? ⟨w.heap.size + 1, 0, none⟩ = some x ∧ W.cell? ⟨w.heap.size + 1, 1, none⟩ = some y ∧ Below W0.heap.size W0 W) (o : Obj) :
    (W.alloc o).cell? ⟨b, 0, none⟩ = some z ∧ (W.alloc o).cell? ⟨w.heap.size, 0, none⟩ = some u ∧ (W.alloc o).cell? ⟨w.heap.size + 1, 0, none⟩ = some x ∧ (W.alloc o).cell? ⟨w.heap.size + 1, 1, none⟩ = some y ∧ Below W0.heap.size W0 (W.alloc o) := c4_keep hs (h.2.2.2.2.alloc h.2.2.2.2.size o)
theorem c4_row {w W0 W : World} {a : Option Addr} {l : List Int} {u x y z : Value} {b g : Nat} (hs : SX w W0 a l u x y z b g) (h : W.cell? ⟨b, 0, none⟩ = some z ∧ W.cell? ⟨w.heap.size, 0, none⟩ = some u ∧ W.cell? ⟨w.heap.size + 1, 0, none⟩ = some x ∧ W.cell? ⟨w.heap.size + 1, 1, none⟩ = some y ∧ Below W0.heap.size W0 W) : Rd W (some ⟨g, 0, none⟩) l := (hs.keep h.2.2.2.2).row.rd

theorem stL_len (l : List Int) (f s p x : Int) : (stL l f s p x).length = l.length := by
  unfold stL
  split
  · rw [List.length_set]
  · rfl
end Go.Proofs.YtckeffccoghgeaaDoor.G

namespace Go.Proofs.YtckeffccoghgeaaDoor.G.I
open Go.ChangeShapes Go.WideShapes Go.ChangeAt Go.RowKit Go.PlainAid
set_option linter.unusedVariables false

theorem holdsI (l m n : Int) (b : Bool) (hb : decide (l ≤ n ∧ n ≤ m) = b) (w : World) : Calls Tryd.prog 51 #[.agg #[.int .i64 l, .int .i64 m], .int .i64 n] w fun e w' => e = .returned (.bool b) ∧ Below w.heap.size w w' := by
  go_enter Tryd.func51, Tryd.ntmps51
  by_cases h1 : l ≤ n
  · by_cases h2 : n ≤ m
    · go_wp2
      go_ret
      exact ⟨by rw [← hb, decide_eq_true ⟨h1, h2⟩]; rfl, (Below.refl _ _).alloc (Nat.le_refl _) _⟩
    · go_wp2
      go_ret
      exact ⟨by rw [← hb, decide_eq_false (fun h => by omega)]; rfl, (Below.refl _ _).alloc (Nat.le_refl _) _⟩
  · go_wp2
    go_ret
    exact ⟨by rw [← hb, decide_eq_false (fun h => by omega)]; rfl, (Below.refl _ _).alloc (Nat.le_refl _) _⟩

theorem inS (l m n : Int) (b : Bool) (hb : decide (l ≤ n ∧ n ≤ m) = b) (w : World) : Calls Tryd.prog 31 #[.int .i64 n, .int .i64 l, .int .i64 m] w fun e w' => e = .returned (.bool b) ∧ w' = w := by
  go_enter Tryd.func31, Tryd.ntmps31
  by_cases h1 : l ≤ n
  · by_cases h2 : n ≤ m
    · go_wp2
      go_ret
      exact ⟨by rw [← hb, decide_eq_true ⟨h1, h2⟩]; rfl, rfl⟩
    · go_wp2
      go_ret
      exact ⟨by rw [← hb, decide_eq_false (fun h => by omega)]; rfl, rfl⟩
  · go_wp2
    go_ret
    exact ⟨by rw [← hb, decide_eq_false (fun h => by omega)]; rfl, rfl⟩

theorem heap_new (w : World) (o : Obj) : (w.alloc o).heap[w.heap.size]? = some o := by
  show (w.heap.push _)[w.heap.size]? = _
  simp

theorem row_lt {w : World} {k : Nat} {o : Obj} (h : w.heap[k]? = some o) : k < w.heap.size := by
  rcases Nat.lt_or_ge k w.heap.size with h' | h'
  · exact h'
  · rw [Array.getElem?_eq_none h'] at h; cases h

/-- a block that was laid, behind what only grows -/
theorem row_after {w W' : World} {k B : Nat} {o : Obj} (h : w.heap[k]? = some o) (hb : Below B w W') (hk : k < B) : W'.heap[k]? = some o :=
  (hb.block k hk).trans h

theorem row1_cells {w : World} {k : Nat} {t : TypeId} {x : Value} (h : w.heap[k]? = some (.cells #[x] t)) :
    w.cell? ⟨k, 0, none⟩ = some x ∧ w.frozen? ⟨k, 0, none⟩ = false := by
  refine ⟨?_, ?_⟩ <;> simp [World.cell?, World.frozen?, h]

theorem row2_cells {w : World} {k : Nat} {t : TypeId} {x y : Value} (h : w.heap[k]? = some (.cells #[x, y] t)) :
    w.cell? ⟨k, 0, none⟩ = some x ∧ w.cell? ⟨k, 1, none⟩ = some y ∧ w.frozen? ⟨k, 0, none⟩ = false ∧ w.frozen? ⟨k, 1, none⟩ = false := by
  refine ⟨?_, ?_, ?_, ?_⟩ <;> simp [World.cell?, World.frozen?, h]

theorem add_at (g o j : Nat) : (⟨g, o, none⟩ : Addr).add j = ⟨g, o + j, none⟩ := by
  unfold Addr.add; split <;> simp_all
theorem own_lt {w : World} {B e z n : Nat} {v : Value} {xs : List Value} (h : w.ownsRow B e z v n xs) : ∀ g, v.ownBlock = some g → g < w.heap.size := fun k hk => (h.lt k hk).2

theorem own_ge {w : World} {B e z n : Nat} {v : Value} {xs : List Value} (h : w.ownsRow B e z v n xs) : ∀ g, v.ownBlock = some g → B ≤ g := fun k hk => (h.lt k hk).1

/-- what lies below the line stays owned -/
theorem own_keep {w w' : World} {B C e z n : Nat} {v : Value} {xs : List Value} (h : w.ownsRow B e z v n xs) (hb : Below C w w') (hlt : ∀ g, v.ownBlock = some g → g < C) : w'.ownsRow B e z v n xs := by
  refine ⟨h.1, ?_⟩
  rcases h.2 with h2 | ⟨g, cap, cur, rfl, hg, hh, h3⟩
  · exact .inl h2
  · exact .inr ⟨g, cap, cur, rfl, hg, by rw [hb.block g (hlt g rfl)]; exact hh, h3⟩

theorem own_mono {w : World} {B C e z n : Nat} {v : Value} {xs : List Value} (h : w.ownsRow B e z v n xs) (hC : C ≤ B) : w.ownsRow C e z v n xs := by
  refine ⟨h.1, ?_⟩
  rcases h.2 with h2 | ⟨g, cap, cur, rfl, hg, h3⟩
  · exact .inl h2
  · exact .inr ⟨g, cap, cur, rfl, by omega, h3⟩
theorem cells3 : Tryd.prog.cellsOf 3 = 1 := by kernel_rfl

theorem undrew {W W' : World} (h : Below W.drew.heap.size W.drew W') : Below W.heap.size W W' := ((Below.refl W.heap.size W).drew).trans h

theorem row_on {w w' : World} {k : Nat} {o : Obj} (h : w.heap[k]? = some o) (hb : Below w.heap.size w w') : w'.heap[k]? = some o := row_after h hb (row_lt h)

theorem bel_on {w W W' : World} {B : Nat} (hB : B ≤ w.heap.size) (h : Below B w W) (hb : Below W.heap.size W W') : Below B w W' := h.trans (hb.mono (Nat.le_trans hB h.size))
/-- a list of regions that is read, wherever it lies -/
def RdR (w : World) (a : Option Addr) (rl : List (Int × Int)) : Prop := 0 < rl.length → ∃ g off, a = some ⟨g, off, none⟩ ∧ ∀ j (h : j < rl.length), w.cell? ⟨g, off + j * 2, none⟩ = some (.int .i64 rl[j].1) ∧ w.cell? ⟨g, off + j * 2 + 1, none⟩ = some (.int .i64 rl[j].2)

theorem RdR.keep {w w' : World} {a : Option Addr} {rl : List (Int × Int)} {B : Nat} (h : RdR w a rl) (hb : Below B w w') (hB : w.heap.size ≤ B) : RdR w' a rl := fun h0 => by
  obtain ⟨g, off, ha, hc⟩ := h h0
  refine ⟨g, off, ha, fun j hj => ?_⟩
  obtain ⟨h1, h2⟩ := hc j hj
  have hlt := Nat.lt_of_lt_of_le (World.block_lt_of_cell? w ⟨g, off + j * 2, none⟩ h1) hB
  exact ⟨(hb.cell (p := ⟨g, off + j * 2, none⟩) hlt).trans h1, (hb.cell (p := ⟨g, off + j * 2 + 1, none⟩) hlt).trans h2⟩
def regsV : List (Int × Int) → List Value
  | [] => []
  | r :: t => .int .i64 r.1 :: .int .i64 r.2 :: regsV t
theorem regsV_len : ∀ rl : List (Int × Int), (regsV rl).length = rl.length * 2
  | [] => rfl
  | r :: t => by simp [regsV, regsV_len t]; omega
theorem regsV_append : ∀ x y : List (Int × Int), regsV (x ++ y) = regsV x ++ regsV y
  | [], y => rfl
  | r :: t, y => by simp [regsV, regsV_append t y]
theorem regsV_at : ∀ (rl : List (Int × Int)) (j : Nat) (h : j < rl.length), (regsV rl)[j * 2]? = some (.int .i64 rl[j].1) ∧ (regsV rl)[j * 2 + 1]? = some (.int .i64 rl[j].2)
  | [], j, h => by simp at h
  | r :: t, 0, h => by simp [regsV]
  | r :: t, j + 1, h => by
    have := regsV_at t j (by simpa using h)
    rw [show (j + 1) * 2 = j * 2 + 1 + 1 by omega]
    simpa [regsV] using this
theorem regsV_set : ∀ (rl : List (Int × Int)) (j : Nat) (f s : Int), ((regsV rl).set (j * 2) (.int .i64 f)).set (j * 2 + 1) (.int .i64 s) = regsV (rl.set j (f, s))
  | [], j, f, s => by simp [regsV]
  | r :: t, 0, f, s => by simp [regsV]
  | r :: t, j + 1, f, s => by
    have := regsV_set t j f s
    rw [show (j + 1) * 2 = j * 2 + 1 + 1 by omega]
    simpa [regsV] using this
theorem regsV_one : ∀ rl : List (Int × Int), ∀ v ∈ regsV rl, v.oneCell' = true
  | [], v, h => by cases h
  | r :: t, v, h => by
    rcases List.mem_cons.1 h with rfl | h
    · rfl
    · rcases List.mem_cons.1 h with rfl | h
      · rfl
      · exact regsV_one t v h
theorem regsV_zero (n : Nat) : madeCells #[.int .i64 0, .int .i64 0] (n * 2) = (regsV (List.replicate n (0, 0))).toArray := by
  apply Array.ext
  · simp [madeCells, regsV_len]
  · intro j h1 h2
    have hj : j < n * 2 := by simpa [madeCells] using h1
    have h0 : j / 2 < n := by omega
    have hr := regsV_at (List.replicate n ((0, 0) : Int × Int)) (j / 2) (by simpa using h0)
    have hz : (regsV (List.replicate n ((0, 0) : Int × Int)))[j]? = some (.int .i64 0) := by
      rcases Nat.mod_two_eq_zero_or_one j with e | e
      · have := hr.1
        rw [show j / 2 * 2 = j by omega] at this
        simpa using this
      · have := hr.2
        rw [show j / 2 * 2 + 1 = j by omega] at this
        simpa using this
    have hl : (madeCells #[Value.int .i64 0, .int .i64 0] (n * 2))[j] = .int .i64 0 := by
      rcases Nat.mod_two_eq_zero_or_one j with e | e <;> simp [madeCells, e]
    rw [hl]
    have hj2 : j < (regsV (List.replicate n ((0, 0) : Int × Int))).length := by simpa using h2
    rw [List.getElem?_eq_getElem hj2] at hz
    simpa using (Option.some.inj hz).symm
theorem own_gr {w w' : World} {B C e z n : Nat} {v : Value} {xs : List Value} (h : w.ownsRow B e z v n xs) (hg : w.grownBy w' (some C)) (hC : C < B) : w'.ownsRow B e z v n xs :=
  h.kept hg (by
    cases hv : v.ownBlock with
    | none => exact .inl rfl
    | some g => exact .inr (fun e => by cases e; have := own_ge h C hv; omega))

/-- the first j copied, the rest still 0 -/
def uptoR (l : List (Int × Int)) (n j : Nat) : List (Int × Int) := l.take j ++ List.replicate (n - j) (0, 0)
theorem uptoR_zero (l : List (Int × Int)) (n : Nat) : uptoR l n 0 = List.replicate n (0, 0) := by simp [uptoR]
theorem uptoR_len {l : List (Int × Int)} {n j : Nat} (hl : l.length = n) (h : j ≤ n) : (uptoR l n j).length = n := by simp [uptoR]; omega
theorem uptoR_all {l : List (Int × Int)} {n : Nat} (hl : l.length = n) : uptoR l n n = l := by simp [uptoR]; exact List.take_of_length_le (by omega)
theorem uptoR_set {l : List (Int × Int)} {n j : Nat} (hl : l.length = n) (h : j < n) (hj : j < l.length) : (uptoR l n j).set j l[j] = uptoR l n (j + 1) := by
  have h1 : (l.take j).length = j := by simp; omega
  unfold uptoR
  obtain ⟨m, hm⟩ : ∃ m, n - j = m + 1 := ⟨n - j - 1, by omega⟩
  rw [hm, show n - (j + 1) = m by omega, List.replicate_succ, List.set_append_right _ _ (by omega), h1, Nat.sub_self, List.set_cons_zero, List.take_succ_eq_append_getElem hj, List.append_assoc]
  rfl
theorem pair_keep {w W W' : World} {b c o o' : Nat} {x y x' y' : Value} (hb : Below W.heap.size W W') (h : W.cell? ⟨b, o, none⟩ = some x ∧ W.cell? ⟨b, o + 1, none⟩ = some y ∧ W.cell? ⟨c, o', none⟩ = some x' ∧ W.cell? ⟨c, o' + 1, none⟩ = some y' ∧ Below w.heap.size w W) :
    W'.cell? ⟨b, o, none⟩ = some x ∧ W'.cell? ⟨b, o + 1, none⟩ = some y ∧ W'.cell? ⟨c, o', none⟩ = some x' ∧ W'.cell? ⟨c, o' + 1, none⟩ = some y' ∧ Below w.heap.size w W' := by
  obtain ⟨h1, h2, h3, h4, h5⟩ := h
  have l1 := World.block_lt_of_cell? W ⟨b, o, none⟩ h1
  have l2 := World.block_lt_of_cell? W ⟨c, o', none⟩ h3
  exact ⟨(hb.cell (p := ⟨b, o, none⟩) l1).trans h1, (hb.cell (p := ⟨b, o + 1, none⟩) l1).trans h2, (hb.cell (p := ⟨c, o', none⟩) l2).trans h3, (hb.cell (p := ⟨c, o' + 1, none⟩) l2).trans h4, h5.trans (hb.mono h5.size)⟩
/-- what the walk is told of a list of regions that came in -/
def IsRegs (w : World) (a : Option Addr) (len cap : Nat) (rl : List (Int × Int)) : Prop := rl.length = len ∧ len ≤ cap ∧ len ≤ 9223372036854775807 ∧ RdR w a rl
end Go.Proofs.YtckeffccoghgeaaDoor.G.I

namespace Go.Proofs.YtckeffccoghgeaaDoor.G.I
open Go.RowKit Go.PlainAid
set_option linter.unusedVariables false

def isB (x : Int) : Prop := 0 ≤ x ∧ x ≤ 255
/-- right code -/
def CodeR (rl : List (Int × Int)) : Prop := rl.length ≤ 60 ∧ ∀ i (h : i < rl.length), isB rl[i].1 ∧ isB rl[i].2
def AllB (rl : List (Int × Int)) (j : Nat) : Prop := ∀ i (h : i < rl.length), i < j → isB rl[i].1 ∧ isB rl[i].2
theorem allB_zero (rl : List (Int × Int)) : AllB rl 0 := fun i _ h => by omega
theorem allB_succ {rl : List (Int × Int)} {j : Nat} (h : AllB rl j) (hj : j < rl.length) (hr : isB rl[j].1 ∧ isB rl[j].2) : AllB rl (j + 1) := fun i hi hlt => by
  by_cases e : i = j
  · subst e; exact hr
  · exact h i hi (by omega)
theorem code_bool (rl : List (Int × Int)) : ∃ b : Bool, b = true ↔ CodeR rl := by
  by_cases hk : CodeR rl
  · exact ⟨true, ⟨fun _ => hk, fun _ => rfl⟩⟩
  · exact ⟨false, ⟨fun h => (by cases h), fun h => absurd h hk⟩⟩
theorem not_code {rl : List (Int × Int)} {b : Bool} (hb : b = true ↔ CodeR rl) (j : Nat) (hj : j < rl.length) (h : ¬ (isB rl[j].1 ∧ isB rl[j].2)) : b = false := by
  cases b
  · rfl
  · exact absurd ((hb.1 rfl).2 j hj) h
theorem not_long {rl : List (Int × Int)} {b : Bool} (hb : b = true ↔ CodeR rl) (h : ¬ rl.length ≤ 60) : b = false := by
  cases b
  · rfl
  · exact absurd (hb.1 rfl).1 h

end Go.Proofs.YtckeffccoghgeaaDoor.G.I

namespace Go.Proofs.YtckeffccoghgeaaDoor.G.I
open Go.RowKit Go.PlainAid
set_option linter.unusedVariables false

theorem RdR.on {w w' : World} {a : Option Addr} {rl : List (Int × Int)} (h : RdR w a rl) (hb : Below w.heap.size w w') : RdR w' a rl := h.keep hb (Nat.le_refl _)

/-- n marks from k on, two each -/
def marksP (k : Nat) : Nat → List (Int × Int)
  | 0 => []
  | n + 1 => ((k : Int), (k : Int) + 1) :: marksP (k + 2) n
theorem marksP_len : ∀ (n k : Nat), (marksP k n).length = n
  | 0, _ => rfl
  | n + 1, k => by simp [marksP, marksP_len n]
theorem marksP_snoc : ∀ (j k : Nat), marksP k (j + 1) = marksP k j ++ [(((k : Int) + 2 * (j : Int)), ((k : Int) + 2 * (j : Int)) + 1)]
  | 0, k => by simp [marksP]
  | j + 1, k => by
    rw [marksP, marksP_snoc j (k + 2), marksP, List.cons_append, show ((k + 2 : Nat) : Int) + 2 * (j : Int) = (k : Int) + 2 * ((j + 1 : Nat) : Int) by omega]
theorem marksP_at : ∀ (n k j : Nat) (h : j < (marksP k n).length), (marksP k n)[j] = (((k : Int) + 2 * (j : Int)), ((k : Int) + 2 * (j : Int)) + 1)
  | 0, k, j, h => by simp [marksP] at h
  | n + 1, k, 0, h => by simp [marksP]
  | n + 1, k, j + 1, h => by
    have h' : j < (marksP (k + 2) n).length := by simpa [marksP] using h
    have := marksP_at n (k + 2) j h'
    simp only [marksP, List.getElem_cons_succ]
    rw [this, show ((k + 2 : Nat) : Int) + 2 * (j : Int) = (k : Int) + 2 * ((j + 1 : Nat) : Int) by omega]
def mixedP (l : List (Int × Int)) (k j : Nat) : List (Int × Int) := marksP k j ++ l.drop j
theorem mixedP_len {l : List (Int × Int)} {k j : Nat} (h : j ≤ l.length) : (mixedP l k j).length = l.length := by
  unfold mixedP; rw [List.length_append, marksP_len, List.length_drop]; omega
theorem mixedP_set {l : List (Int × Int)} {k j : Nat} (h : j < l.length) : (mixedP l k j).set j (((k : Int) + 2 * (j : Int)), ((k : Int) + 2 * (j : Int)) + 1) = mixedP l k (j + 1) := by
  unfold mixedP
  rw [List.set_append_right _ _ (by rw [marksP_len]; omega), marksP_len, Nat.sub_self, List.drop_eq_getElem_cons h, List.set_cons_zero, marksP_snoc]
  simp
theorem mixedP_all (l : List (Int × Int)) (k : Nat) : mixedP l k l.length = marksP k l.length := by unfold mixedP; simp

end Go.Proofs.YtckeffccoghgeaaDoor.G.I

namespace Go.Proofs.YtckeffccoghgeaaDoor.G
open Go.RowKit Go.PlainAid
set_option linter.unusedVariables false

def isW (x : Int) : Prop := 0 ≤ x ∧ x ≤ 65535
/-- a right machine -/
def CpuR (pc : Int) (st : List Int) : Prop := st.length ≤ 8 ∧ (0 ≤ pc ∧ pc ≤ 60) ∧ ∀ i (h : i < st.length), isW st[i]
def AllW (st : List Int) (j : Nat) : Prop := ∀ i (h : i < st.length), i < j → isW st[i]
theorem allW_zero (st : List Int) : AllW st 0 := fun i _ h => by omega
theorem allW_succ {st : List Int} {j : Nat} (h : AllW st j) (hj : j < st.length) (hr : isW st[j]) : AllW st (j + 1) := fun i hi hlt => by
  by_cases e : i = j
  · subst e; exact hr
  · exact h i hi (by omega)
theorem cpu_bool (pc : Int) (st : List Int) : ∃ b : Bool, b = true ↔ CpuR pc st := by
  by_cases hk : CpuR pc st
  · exact ⟨true, ⟨fun _ => hk, fun _ => rfl⟩⟩
  · exact ⟨false, ⟨fun h => (by cases h), fun h => absurd h hk⟩⟩
theorem not_cpu {pc : Int} {st : List Int} {b : Bool} (hb : b = true ↔ CpuR pc st) (h : ¬ CpuR pc st) : b = false := by
  cases b
  · rfl
  · exact absurd (hb.1 rfl) h
theorem cpu_end {pc : Int} {st : List Int} {b : Bool} (hb : b = true ↔ CpuR pc st) (h1 : st.length ≤ 8) (h2 : AllW st st.length) : decide (0 ≤ pc ∧ pc ≤ 60) = b := by
  by_cases hp : 0 ≤ pc ∧ pc ≤ 60
  · rw [decide_eq_true hp]; exact (hb.2 ⟨h1, hp, fun i h => h2 i h h⟩).symm
  · rw [decide_eq_false hp]; exact (not_cpu hb (fun h => hp h.2.1)).symm

/-- what a call of a machine lays first: its box -/
theorem box2 (w : World) (x y : Value) (t : TypeId) : (w.alloc (.cells #[x, y] t)).heap[w.heap.size]? = some (.cells #[x, y] t) ∧ Below w.heap.size w (w.alloc (.cells #[x, y] t)) ∧ (w.alloc (.cells #[x, y] t)).heap.size = w.heap.size + 1 :=
  ⟨heap_new w _, (Below.refl _ _).alloc (Nat.le_refl _) _, by simp⟩

theorem cell_onW {W W' : World} {p : Addr} {v : Value} (h : W.cell? p = some v) (hb : Below W.heap.size W W') : W'.cell? p = some v := (hb.cell (World.block_lt_of_cell? W p h)).trans h
def WordsR (l : List Int) : Prop := ∀ i (h : i < l.length), isW l[i]
theorem words_bool (l : List Int) : ∃ b : Bool, b = true ↔ WordsR l := by
  by_cases hk : WordsR l
  · exact ⟨true, ⟨fun _ => hk, fun _ => rfl⟩⟩
  · exact ⟨false, ⟨fun h => (by cases h), fun h => absurd h hk⟩⟩
theorem not_that {Q : Prop} {b : Bool} (hb : b = true ↔ Q) (h : ¬ Q) : b = false := by
  cases b
  · rfl
  · exact absurd (hb.1 rfl) h
theorem cpu_endS {pc : Int} {st : List Int} {b : Bool} (hb : b = true ↔ CpuR pc st) (h2 : AllW st st.length) : (if 0 ≤ pc ∧ pc ≤ 60 then decide (st.length ≤ 8) else false) = b := by
  by_cases hp : 0 ≤ pc ∧ pc ≤ 60
  · rw [if_pos hp]
    by_cases h1 : st.length ≤ 8
    · rw [decide_eq_true h1]; exact (hb.2 ⟨h1, hp, fun i h => h2 i h h⟩).symm
    · rw [decide_eq_false h1]; exact (not_cpu hb (fun h => h1 h.1)).symm
  · rw [if_neg hp]; exact (not_cpu hb (fun h => hp h.2.1)).symm

end Go.Proofs.YtckeffccoghgeaaDoor.G

namespace Go.Proofs.YtckeffccoghgeaaDoor.G
open Go.ChangeShapes Go.WideShapes Go.ChangeAt Go.RowKit Go.PlainAid
set_option linter.unusedVariables false

/-- what is left of a bound -/
def leftN (L : Int) (n : Nat) : Int := if (n : Int) ≤ L then L - n else -1

theorem szIL (a : Option Addr) (n cap : Nat) (L : Int) (hn : n ≤ 9223372036854775807) (h0 : 0 ≤ L) (h1 : L ≤ 1048576) (w : World) : Calls Tryd.prog 27 #[.slice a n cap, .int .i64 L] w fun e w' => e = .returned (.int .i64 (leftN L n)) ∧ w' = w := by
  by_cases h : (n : Int) ≤ L
  · rw [show leftN L n = L - n from if_pos h]
    go_enter Tryd.func27, Tryd.ntmps27
    go_wp2
    go_ret
    exact ⟨rfl, rfl⟩
  · rw [show leftN L n = -1 from if_neg h]
    go_enter Tryd.func27, Tryd.ntmps27
    go_wp2
    go_ret
    exact ⟨rfl, rfl⟩
theorem leftN_yes {L : Int} {n : Nat} (h : (n : Int) ≤ L) : leftN L n = L - n := if_pos h
theorem leftN_no {L : Int} {n : Nat} (h : ¬ (n : Int) ≤ L) : leftN L n = -1 := if_neg h
/-- two boxes of a machine and one of another, laid one behind the other -/
theorem box3 (w : World) (x y x' y' x'' y'' : Value) (t r q : TypeId) :
    (((w.alloc (.cells #[x, y] t)).alloc (.cells #[x', y'] r)).alloc (.cells #[x'', y''] q)).heap[w.heap.size]? = some (.cells #[x, y] t) ∧ (((w.alloc (.cells #[x, y] t)).alloc (.cells #[x', y'] r)).alloc (.cells #[x'', y''] q)).heap[w.heap.size + 1]? = some (.cells #[x', y'] r) ∧ (((w.alloc (.cells #[x, y] t)).alloc (.cells #[x', y'] r)).alloc (.cells #[x'', y''] q)).heap[w.heap.size + 2]? = some (.cells #[x'', y''] q) ∧ Below w.heap.size w (((w.alloc (.cells #[x, y] t)).alloc (.cells #[x', y'] r)).alloc (.cells #[x'', y''] q)) ∧ (((w.alloc (.cells #[x, y] t)).alloc (.cells #[x', y'] r)).alloc (.cells #[x'', y''] q)).heap.size = w.heap.size + 3 := by
  have h0 := heap_new w (.cells #[x, y] t)
  have h1 := heap_new (w.alloc (.cells #[x, y] t)) (.cells #[x', y'] r)
  have h2 := heap_new ((w.alloc (.cells #[x, y] t)).alloc (.cells #[x', y'] r)) (.cells #[x'', y''] q)
  refine ⟨(Below.heap_alloc _ _ _ (by simp; omega)).trans ((Below.heap_alloc _ _ _ (by simp)).trans h0), (Below.heap_alloc _ _ _ (by simp)).trans (by simpa using h1), by simpa using h2, (((Below.refl _ _).alloc (Nat.le_refl _) _).alloc (by simp) _).alloc (by simp; omega) _, by simp⟩

/-- a list of numbers that a call owns, with room behind it or none -/
def OwnN (w : World) (B g n c : Nat) (l : List Int) : Prop := w.ownsRow B 3 1 (.slice (some ⟨g, 0, none⟩) n c) n (intsV l)
theorem OwnN.len {w : World} {B g n c : Nat} {l : List Int} (h : OwnN w B g n c l) : l.length = n := by
  have := h.1; rw [intsV_len] at this; omega
theorem OwnN.ge {w : World} {B g n c : Nat} {l : List Int} (h : OwnN w B g n c l) : B ≤ g := own_ge h g rfl
theorem OwnN.lt {w : World} {B g n c : Nat} {l : List Int} (h : OwnN w B g n c l) : g < w.heap.size := Go.Proofs.YtckeffccoghgeaaDoor.G.own_lt h g rfl
theorem OwnN.on {w w' : World} {B g n c : Nat} {l : List Int} (h : OwnN w B g n c l) (hb : Below w.heap.size w w') : OwnN w' B g n c l := own_on h hb
theorem OwnN.mono {w : World} {B C g n c : Nat} {l : List Int} (h : OwnN w B g n c l) (hC : C ≤ B) : OwnN w C g n c l := own_mono h hC
theorem OwnN.rd {w : World} {B g n c : Nat} {l : List Int} (h : OwnN w B g n c l) : Rd w (some ⟨g, 0, none⟩) l := own_rd' h
theorem OwnN.grown {w w' : World} {B g n c C : Nat} {l : List Int} (h : OwnN w B g n c l) (hg : w.grownBy w' (some C)) (hne : C ≠ g) : OwnN w' B g n c l :=
  own_grown h hg (fun k hk => by simp [Value.ownBlock] at hk; omega)
theorem RowAt.ownN {w : World} {g B n : Nat} {l : List Int} (h : RowAt w g l) (hB : B ≤ g) (hl : l.length = n) (hn : n ≤ 1048576) : OwnN w B g n n l := by
  subst hl; exact h.owns hB (by unfold maxLen; omega)

theorem alloc_grown (w : World) (o : Obj) (r : Option Nat) : w.grownBy (w.alloc o) r := World.grownBy_alloc _ _ _
theorem below_grown {w w' : World} {r : Option Nat} (h : Below w.heap.size w w') : w.grownBy w' r := ⟨h.os, h.tape, h.output, h.size, fun j hj _ => h.block j hj⟩
theorem OwnN.alloc {w : World} {B g n c : Nat} {l : List Int} (h : OwnN w B g n c l) (o : Obj) : OwnN (w.alloc o) B g n c l := h.on ((Below.refl _ _).alloc (Nat.le_refl _) _)

theorem cell_on {W W' : World} {p : Addr} {v : Value} (h : W.cell? p = some v) (hb : Below W.heap.size W W') : W'.cell? p = some v := (hb.cell (World.block_lt_of_cell? W p h)).trans h
/-- four cells that a drawn region reads, and that all is kept since it began -/
theorem q4_keep {W0 W' : World} {p1 p2 p3 p4 : Addr} {v1 v2 v3 v4 : Value} (h : W0.cell? p1 = some v1 ∧ W0.cell? p2 = some v2 ∧ W0.cell? p3 = some v3 ∧ W0.cell? p4 = some v4) (hB : Below W0.heap.size W0 W') :
    W'.cell? p1 = some v1 ∧ W'.cell? p2 = some v2 ∧ W'.cell? p3 = some v3 ∧ W'.cell? p4 = some v4 ∧ Below W0.heap.size W0 W' :=
  ⟨cell_on h.1 hB, cell_on h.2.1 hB, cell_on h.2.2.1 hB, cell_on h.2.2.2 hB, hB⟩
theorem q4_on {W0 W W' : World} {p1 p2 p3 p4 : Addr} {v1 v2 v3 v4 : Value} (hb : Below W.heap.size W W') (h : W.cell? p1 = some v1 ∧ W.cell? p2 = some v2 ∧ W.cell? p3 = some v3 ∧ W.cell? p4 = some v4 ∧ Below W0.heap.size W0 W) : Below W0.heap.size W0 W' := bel_on (Nat.le_refl _) h.2.2.2.2 hb
theorem q4_bel {W0 W : World} {p1 p2 p3 p4 : Addr} {v1 v2 v3 v4 : Value} (h : W.cell? p1 = some v1 ∧ W.cell? p2 = some v2 ∧ W.cell? p3 = some v3 ∧ W.cell? p4 = some v4 ∧ Below W0.heap.size W0 W) : Below W0.heap.size W0 W := h.2.2.2.2
theorem Rd.on {w w' : World} {a : Option Addr} {l : List Int} (h : Rd w a l) (hb : Below w.heap.size w w') : Rd w' a l := h.keep hb (Nat.le_refl _)
end Go.Proofs.YtckeffccoghgeaaDoor.G

namespace Go.Proofs.YtckeffccoghgeaaDoor.G
open Go.RowKit Go.PlainAid
set_option linter.unusedVariables false

/-- append onto a list of numbers that the call owns -/
theorem run_appN (W : World) (ty : TypeId) (B g n c : Nat) (l : List Int) (q : Option Addr) (m cx : Nat) (l' : List Int) (hown : OwnN W B g n c l) (hl : l'.length = m) (hq : q = none → m = 0 ∧ cx = 0) (hr : Rd W q l') (hn : n + m ≤ 3000000) (hB : B ≤ W.heap.size) :
    ∃ g' c' w', (Builtin.append_ #[26, 26] ty #[.slice (some ⟨g, 0, none⟩) n c, .slice q m cx]).run Tryd.prog W = .ok (.slice (some ⟨g', 0, none⟩) (n + m) c') w' ∧ OwnN w' B g' (n + m) c' (l ++ l') ∧ W.grownBy w' (some g) ∧ (g' = g ∨ g' = W.heap.size) := by
  obtain ⟨i0, hi, hz0, hz1, hz2⟩ := info_parts info3
  cases q with
  | none =>
    obtain ⟨rfl, rfl⟩ := hq rfl
    refine ⟨g, c, W, ?_, ?_, World.grownBy.refl _ _, .inl rfl⟩
    · exact run_append_owned_none (P := Tryd.prog) (w := W) B 26 ty 3 i0 1 Tryd.underlying26 hi _ n _ hown
    · rw [List.length_eq_zero_iff.1 hl, List.append_nil]; exact hown
  | some ad =>
    obtain ⟨v', w', hrun, h2, h3, h4, h5⟩ := run_append_own_at (P := Tryd.prog) W B 26 ty 3 i0 (.int .i64 0) 1 8 Tryd.underlying26 hi hz0 hz1 hz2 rfl (by decide) _ n _ hown ad m cx (intsV l') (by rw [intsV_len, hl]; simp) (fun j u hu => by
      obtain ⟨hj, rfl⟩ := intsV_at hu
      obtain ⟨b, off, ha, hc⟩ := hr (by omega)
      cases ha
      rw [add_at]
      exact hc j hj) intsV_one (by unfold maxLen; omega) (by omega) hB
    rcases h2.2 with ⟨hv, _⟩ | ⟨g', cap, cur, rfl, _⟩
    · have := h4.1 hv; simp at this
    · refine ⟨g', cap, w', hrun, ?_, h3, ?_⟩
      · unfold OwnN
        rw [show intsV (l ++ l') = intsV l ++ intsV l' by simp [intsV]]
        exact h2
      · simp [Value.ownBlock] at h5
        exact h5

theorem wpN {o : Oper} {a : Act} {K : Act → World → Prop} {Q : Exit → Act → World → Prop} (W : World) (s x : Operand)
    (ho : o.op = .call { callee := .builtin .append, args := #[s, x], argTypes := #[26, 26] }) (B g n c : Nat) (l : List Int) (q : Option Addr) (m cx : Nat) (l' : List Int)
    (hs : a.eval s = .slice (some ⟨g, 0, none⟩) n c) (hx : a.eval x = .slice q m cx) (hown : OwnN W B g n c l) (hl : l'.length = m) (hq : q = none → m = 0 ∧ cx = 0) (hr : Rd W q l') (hn : n + m ≤ 3000000) (hB : B ≤ W.heap.size)
    (h : ∀ g' c' w', OwnN w' B g' (n + m) c' (l ++ l') → W.grownBy w' (some g) → (g' = g ∨ g' = W.heap.size) → K (a.put o.dst (.slice (some ⟨g', 0, none⟩) (n + m) c')) w') : o.wp Tryd.prog a W K Q := by
  obtain ⟨g', c', w', hrun, h2, h3, h4⟩ := run_appN W o.type B g n c l q m cx l' hown hl hq hr hn hB
  unfold Oper.wp execOp
  simp only [ho, resolve, invoke, builtin, Sem.run_bind, Sem.run_pure, Result.andThen_ok, List.map_toArray, List.map_cons, List.map_nil, hs, hx, hrun]
  exact h g' c' w' h2 h3 h4
/-- .. in a plain region -/
theorem listN {ops : Array Oper} {rest : List Oper} {o : Oper} {a : Act} {Q : Exit → Act → World → Prop} {W : World} (hgd : o.guard = none) (s x : Operand)
    (ho : o.op = .call { callee := .builtin .append, args := #[s, x], argTypes := #[26, 26] }) (B g n c : Nat) (l : List Int) (q : Option Addr) (m cx : Nat) (l' : List Int)
    (hs : a.eval s = .slice (some ⟨g, 0, none⟩) n c) (hx : a.eval x = .slice q m cx) (hown : OwnN W B g n c l) (hl : l'.length = m) (hq : q = none → m = 0 ∧ cx = 0) (hr : Rd W q l') (hn : n + m ≤ 3000000) (hB : B ≤ W.heap.size)
    (h : ∀ g' c' w', OwnN w' B g' (n + m) c' (l ++ l') → W.grownBy w' (some g) → (g' = g ∨ g' = W.heap.size) → wpList Tryd.prog ops Q rest (a.put o.dst (.slice (some ⟨g', 0, none⟩) (n + m) c')) w') : wpList Tryd.prog ops Q (o :: rest) a W :=
  wpList_plain hgd fun _ hK => wpN W s x ho B g n c l q m cx l' hs hx hown hl hq hr hn hB fun g' c' w' h2 h3 h4 => hK _ _ (h g' c' w' h2 h3 h4)
/-- .. in a region that draws its order -/
theorem anyN {ops : Array Oper} {o : Oper} {a : Act} {K : Act → World → Prop} {Q : Exit → Act → World → Prop} {E : Prop} {W : World} (hw : Region.wanted o (yielded ops a.tmps) = true) (s x : Operand)
    (ho : o.op = .call { callee := .builtin .append, args := #[s, x], argTypes := #[26, 26] }) (B g n c : Nat) (l : List Int) (q : Option Addr) (m cx : Nat) (l' : List Int)
    (hs : a.eval s = .slice (some ⟨g, 0, none⟩) n c) (hx : a.eval x = .slice q m cx) (hown : OwnN W B g n c l) (hl : l'.length = m) (hq : q = none → m = 0 ∧ cx = 0) (hr : Rd W q l') (hn : n + m ≤ 3000000) (hB : B ≤ W.heap.size)
    (h : ∀ g' c' w', OwnN w' B g' (n + m) c' (l ++ l') → W.grownBy w' (some g) → (g' = g ∨ g' = W.heap.size) → K (a.put o.dst (.slice (some ⟨g', 0, none⟩) (n + m) c')) w') :
    if Region.wanted o (yielded ops a.tmps) = true then Oper.wp Tryd.prog o a W K Q else E := by
  rw [if_pos hw]
  exact wpN W s x ho B g n c l q m cx l' hs hx hown hl hq hr hn hB h

theorem box2b (w : World) (x y x' y' : Value) (t r : TypeId) :
    ((w.alloc (.cells #[x, y] t)).alloc (.cells #[x', y'] r)).heap[w.heap.size]? = some (.cells #[x, y] t) ∧ ((w.alloc (.cells #[x, y] t)).alloc (.cells #[x', y'] r)).heap[w.heap.size + 1]? = some (.cells #[x', y'] r) ∧ Below w.heap.size w ((w.alloc (.cells #[x, y] t)).alloc (.cells #[x', y'] r)) ∧ ((w.alloc (.cells #[x, y] t)).alloc (.cells #[x', y'] r)).heap.size = w.heap.size + 2 := by
  have h0 := heap_new w (.cells #[x, y] t)
  have h1 := heap_new (w.alloc (.cells #[x, y] t)) (.cells #[x', y'] r)
  refine ⟨(Below.heap_alloc _ _ _ (by simp)).trans h0, by simpa using h1, ((Below.refl _ _).alloc (Nat.le_refl _) _).alloc (by simp) _, by simp⟩

/-- what the specification's copy holds while its region draws -/
theorem l6_set {w W : World} {x y : Value} {k i : Nat} {z : Value} (hk : w.heap.size < k) (h : W.cell? ⟨w.heap.size, 0, none⟩ = some x ∧ W.cell? ⟨w.heap.size, 1, none⟩ = some y ∧ Below w.heap.size w W) :
    (W.setCell ⟨k, i, none⟩ z).cell? ⟨w.heap.size, 0, none⟩ = some x ∧ (W.setCell ⟨k, i, none⟩ z).cell? ⟨w.heap.size, 1, none⟩ = some y ∧ Below w.heap.size w (W.setCell ⟨k, i, none⟩ z) := by
  refine ⟨?_, ?_, h.2.2.setCell (by simp; omega) _⟩
  · rw [World.cell?_of_block (w := W) (Below.heap_setCell _ _ _ _ (by simp; omega))]; exact h.1
  · rw [World.cell?_of_block (w := W) (Below.heap_setCell _ _ _ _ (by simp; omega))]; exact h.2.1
theorem l6_grown {w W W' : World} {x y : Value} {r : Nat} (h : W.cell? ⟨w.heap.size, 0, none⟩ = some x ∧ W.cell? ⟨w.heap.size, 1, none⟩ = some y ∧ Below w.heap.size w W) (hg : W.grownBy W' (some r)) (hr : w.heap.size < r) :
    W'.cell? ⟨w.heap.size, 0, none⟩ = some x ∧ W'.cell? ⟨w.heap.size, 1, none⟩ = some y ∧ Below w.heap.size w W' := by
  have hlt := World.block_lt_of_cell? W ⟨w.heap.size, 0, none⟩ h.1
  exact ⟨(hg.cell_far ⟨w.heap.size, 0, none⟩ hlt (by simp; omega)).trans h.1, (hg.cell_far ⟨w.heap.size, 1, none⟩ hlt (by simp; omega)).trans h.2.1, h.2.2.grown hg h.2.2.size (fun k hk => by cases hk; omega)⟩
theorem l6_alloc {w W : World} {x y : Value} (h : W.cell? ⟨w.heap.size, 0, none⟩ = some x ∧ W.cell? ⟨w.heap.size, 1, none⟩ = some y ∧ Below w.heap.size w W) (o : Obj) :
    (W.alloc o).cell? ⟨w.heap.size, 0, none⟩ = some x ∧ (W.alloc o).cell? ⟨w.heap.size, 1, none⟩ = some y ∧ Below w.heap.size w (W.alloc o) := by
  have hb : Below W.heap.size W (W.alloc o) := (Below.refl _ _).alloc (Nat.le_refl _) _
  exact ⟨cell_on h.1 hb, cell_on h.2.1 hb, h.2.2.alloc h.2.2.size _⟩
theorem own_new (w : World) (B : Nat) (hB : B ≤ w.heap.size) : OwnN (w.alloc (.cells #[] 3)) B w.heap.size 0 0 [] := own_built3 w B hB
theorem own_new' (w : World) (B k : Nat) (hk : k = w.heap.size) (hB : B ≤ w.heap.size) : OwnN (w.alloc (.cells #[] 3)) B k 0 0 [] := by subst hk; exact own_built3 w B hB
theorem Rd.drew {w : World} {a : Option Addr} {l : List Int} (h : Rd w a l) : Rd w.drew a l := h
theorem OwnN.drew {w : World} {B g n c : Nat} {l : List Int} (h : OwnN w B g n c l) : OwnN w.drew B g n c l := h

theorem rd_one (w : World) (y : Int) : Rd (w.alloc (.cells #[.int .i64 y] 3)) (some ⟨w.heap.size, 0, none⟩) [y] := by
  intro _
  refine ⟨w.heap.size, 0, rfl, fun j hj => ?_⟩
  have hj0 : j = 0 := by simp at hj; omega
  subst hj0
  exact (row1_cells (heap_new w (.cells #[.int .i64 y] 3))).1
theorem two_sets {w : World} {k : Nat} {t : TypeId} {x y x' y' : Value} (h : w.heap[k]? = some (.cells #[x, y] t)) : ((w.setCell ⟨k, 0, none⟩ x').setCell ⟨k, 1, none⟩ y').heap[k]? = some (.cells #[x', y'] t) := set1_row (i := 1) (set1_row (i := 0) h)
theorem set_b {w : World} {k : Nat} {t : TypeId} {x y y' : Value} (h : w.heap[k]? = some (.cells #[x, y] t)) : (w.setCell ⟨k, 1, none⟩ y').heap[k]? = some (.cells #[x, y'] t) := set1_row (i := 1) h
/-- an owned list stays behind writes into other blocks -/
theorem OwnN.set {w : World} {B g n c k i : Nat} {l : List Int} {x : Value} (h : OwnN w B g n c l) (hk : g ≠ k) : OwnN (w.setCell ⟨k, i, none⟩ x) B g n c l := own_setOther h (fun j hj => by simp [Value.ownBlock] at hj; omega)

theorem box_new (w : World) (x y : Value) (t : TypeId) (k : Nat) (o : Obj) (h : w.heap[k]? = some o) : (w.alloc (.cells #[x, y] t)).heap[k]? = some o := (Below.heap_alloc _ _ _ (row_lt h)).trans h

end Go.Proofs.YtckeffccoghgeaaDoor.G
