/-
  Guards, in a namespace of their own.
-/
import Derived.Test.YtfhhnelffldggaaGreatDoorUqAB
import Derived.Laws.Rows
import Derived.Laws.CopyOwn
import Derived.Deep.OwnRows
import Derived.Deep.WholeRow
import Derived.Laws.AppendOwnNone
import Derived.Test.YtfhhnelffldggaaGreatDoorRows
import Derived.Deep.Strs
import Derived.OpenShut
import Derived.ChangeSame
import Derived.ChangeOld
import Derived.Deep.DeepCutAuto
import Derived.Deep.LoopGhost
import Derived.Deep.SlicePairs
import Derived.Maps.AppendAt
import Derived.Test.YtfhhnelffldggaaGreatDoorUqAE
set_option maxRecDepth 100000
set_option maxHeartbeats 16000000
namespace Go.Proofs.YtfhhnelffldggaaGreatDoor.G
open Go.RowKit Go.PlainAid
set_option linter.unusedVariables false
theorem aqGA {p : Prop} (h : p) : Hid p := h
theorem info3 : (Tryz.prog.info? 3).map (fun i => (i.zero, i.size, i.bytes)) = some (some (.int .i64 0), 1, 8) := by kernel_rfl
def intsV (l : List Int) : List Value := l.map (Value.int .i64)
theorem laid_ints (w : World) (l : List Int) (j : Nat) (hj : j < l.length) : (w.alloc (.cells (l.map (Value.int .i64)).toArray 3)).cell? ⟨w.heap.size, j, none⟩ = some (.int .i64 l[j]) := by
  rw [cell_of_row _ w.heap.size j _ 3 (0, 0) (heap_alloc_new w _)]
  simp [hj]
theorem size3 : (Tryz.prog.info? 3).map (·.size) = some 1 := by kernel_rfl
theorem intsV_len (l : List Int) : (intsV l).length = l.length := List.length_map ..
theorem intsV_at {l : List Int} {j : Nat} {v : Value} (h : (intsV l)[j]? = some v) : ∃ hj : j < l.length, v = .int .i64 l[j] := by
  have hj : j < l.length := by
    have := (List.getElem?_eq_some_iff.1 h).1
    rw [intsV_len] at this; exact this
  refine ⟨hj, ?_⟩
  simp [intsV, hj] at h
  exact h.symm
theorem intsV_one {l : List Int} : ∀ v ∈ intsV l, v.oneCell' = true := by
  intro v hv
  simp [intsV] at hv
  obtain ⟨x, _, rfl⟩ := hv
  rfl
theorem intsV_set {l : List Int} {j : Nat} {x : Int} : (intsV l).set j (.int .i64 x) = intsV (l.set j x) := by
  unfold intsV; rw [List.map_set]
def Rd (w : World) (a : Option Addr) (l : List Int) : Prop := 0 < l.length → ∃ g off, a = some ⟨g, off, none⟩ ∧ ∀ j (h : j < l.length), w.cell? ⟨g, off + j, none⟩ = some (.int .i64 l[j])
theorem Rd.keep {w w' : World} {a : Option Addr} {l : List Int} {B : Nat} (h : Rd w a l) (hb : Below B w w') (hB : w.heap.size ≤ B) : Rd w' a l := fun h0 => by
  obtain ⟨g, off, ha, hc⟩ := h h0
  exact ⟨g, off, ha, fun j hj => (hb.cell (p := ⟨g, off + j, none⟩) (Nat.lt_of_lt_of_le (World.block_lt_of_cell? w ⟨g, off + j, none⟩ (hc j hj)) hB)).trans (hc j hj)⟩
def RowAt (w : World) (g : Nat) (l : List Int) : Prop := w.heap[g]? = some (.cells (intsV l).toArray 3 (0, 0))
theorem RowAt.lt {w : World} {g : Nat} {l : List Int} (h : RowAt w g l) : g < w.heap.size := by
  rcases Nat.lt_or_ge g w.heap.size with h' | h'
  · exact h'
  · unfold RowAt at h; rw [Array.getElem?_eq_none h'] at h; cases h
theorem RowAt.keep {w w' : World} {g B : Nat} {l : List Int} (h : RowAt w g l) (hb : Below B w w') (hg : g < B) : RowAt w' g l := by
  unfold RowAt; rw [hb.block g hg]; exact h
theorem RowAt.cell {w : World} {g : Nat} {l : List Int} (h : RowAt w g l) (j : Nat) (hj : j < l.length) : w.cell? ⟨g, j, none⟩ = some (.int .i64 l[j]) := by
  rw [cell_of_row w g j _ 3 (0, 0) h]
  simp [intsV, hj]
theorem RowAt.free {w : World} {g : Nat} {l : List Int} (h : RowAt w g l) (j : Nat) : w.frozen? ⟨g, j, none⟩ = false := frozen_of_row w g j _ 3 h
theorem RowAt.rd {w : World} {g : Nat} {l : List Int} (h : RowAt w g l) : Rd w (some ⟨g, 0, none⟩) l := fun _ => ⟨g, 0, rfl, fun j hj => by rw [Nat.zero_add]; exact h.cell j hj⟩
theorem RowAt.set {w : World} {g : Nat} {l : List Int} (h : RowAt w g l) (j : Nat) (x : Int) : RowAt (w.setCell ⟨g, j, none⟩ (.int .i64 x)) g (l.set j x) := by
  unfold RowAt at h ⊢
  rw [heap_setCell_same w g j _ 3 (.int .i64 x) h, ← intsV_set]
  simp
theorem RowAt.owns {w : World} {g B : Nat} {l : List Int} (h : RowAt w g l) (hB : B ≤ g) (hl : l.length ≤ maxLen) : w.ownsRow B 3 1 (.slice (some ⟨g, 0, none⟩) l.length l.length) l.length (intsV l) :=
  ⟨by simp [intsV_len], Or.inr ⟨g, l.length, (intsV l).toArray, rfl, hB, h, Nat.le_refl _, hl, by simp [intsV_len], by simp; exact List.take_of_length_le (by rw [intsV_len]; exact Nat.le_refl _)⟩⟩
theorem own_rd {w : World} {B n : Nat} {v : Value} {l : List Int} (h : w.ownsRow B 3 1 v n (intsV l)) : ∃ a cap, v = .slice a n cap ∧ n ≤ cap ∧ l.length = n ∧ Rd w a l := by
  have h' := h
  have hl : l.length = n := by have := h.1; rw [intsV_len] at this; omega
  rcases h.2 with ⟨rfl, e⟩ | ⟨g, cap, cur, rfl, hg, hh, hnc, hcp, hcs, htake⟩
  · exact ⟨none, 0, by rw [e], by omega, hl, fun h0 => by omega⟩
  · refine ⟨_, cap, rfl, hnc, hl, fun _ => ⟨g, 0, rfl, fun j hj => ?_⟩⟩
    rw [Nat.zero_add, h'.cellAt j (by omega)]
    simp [intsV, hj]
theorem holdsI (l m n : Int) (b : Bool) (hb : decide (l ≤ n ∧ n ≤ m) = b) (w : World) : Calls Tryz.prog 111 #[.agg #[.int .i64 l, .int .i64 m], .int .i64 n] w fun e w' => e = .returned (.bool b) ∧ Below w.heap.size w w' := by
  go_enter Tryz.func111, Tryz.ntmps111
  by_cases h1 : l ≤ n
  · by_cases h2 : n ≤ m
    · go_wp2
      go_ret
      exact ⟨by rw [← hb, decide_eq_true ⟨h1, h2⟩]; rfl, (Below.refl _ _).alloc (Nat.le_refl _) _⟩
    · go_wp2
      go_ret
      exact ⟨by rw [← hb, decide_eq_false (fun h => by omega)]; rfl, (Below.refl _ _).alloc (Nat.le_refl _) _⟩
  · go_wp2
    go_ret
    exact ⟨by rw [← hb, decide_eq_false (fun h => by omega)]; rfl, (Below.refl _ _).alloc (Nat.le_refl _) _⟩
theorem inS (l m n : Int) (b : Bool) (hb : decide (l ≤ n ∧ n ≤ m) = b) (w : World) : Calls Tryz.prog 97 #[.int .i64 n, .int .i64 l, .int .i64 m] w fun e w' => e = .returned (.bool b) ∧ w' = w := by
  go_enter Tryz.func97, Tryz.ntmps97
  by_cases h1 : l ≤ n
  · by_cases h2 : n ≤ m
    · go_wp2
      go_ret
      exact ⟨by rw [← hb, decide_eq_true ⟨h1, h2⟩]; rfl, rfl⟩
    · go_wp2
      go_ret
      exact ⟨by rw [← hb, decide_eq_false (fun h => by omega)]; rfl, rfl⟩
  · go_wp2
    go_ret
    exact ⟨by rw [← hb, decide_eq_false (fun h => by omega)]; rfl, rfl⟩
theorem heap_new (w : World) (o : Obj) : (w.alloc o).heap[w.heap.size]? = some o := by
  show (w.heap.push _)[w.heap.size]? = _
  simp
theorem row_lt {w : World} {k : Nat} {o : Obj} (h : w.heap[k]? = some o) : k < w.heap.size := by
  rcases Nat.lt_or_ge k w.heap.size with h' | h'
  · exact h'
  · rw [Array.getElem?_eq_none h'] at h; cases h
theorem row_after {w W' : World} {k B : Nat} {o : Obj} (h : w.heap[k]? = some o) (hb : Below B w W') (hk : k < B) : W'.heap[k]? = some o :=
  (hb.block k hk).trans h
theorem row2_cells {w : World} {k : Nat} {t : TypeId} {x y : Value} (h : w.heap[k]? = some (.cells #[x, y] t)) :
    w.cell? ⟨k, 0, none⟩ = some x ∧ w.cell? ⟨k, 1, none⟩ = some y ∧ w.frozen? ⟨k, 0, none⟩ = false ∧ w.frozen? ⟨k, 1, none⟩ = false := by
  refine ⟨?_, ?_, ?_, ?_⟩ <;> simp [World.cell?, World.frozen?, h]
theorem add_at (g o j : Nat) : (⟨g, o, none⟩ : Addr).add j = ⟨g, o + j, none⟩ := by
  unfold Addr.add; split <;> simp_all
theorem run_copy_new (w : World) (a : Option Addr) (l : List Int) (n cap : Nat) (hl : l.length = n) (hr : Rd (w.alloc (.cells (madeCells #[.int .i64 0] n) 3)) a l) :
    (Builtin.copy_ #[30, 30] 3 #[.slice (some ⟨w.heap.size, 0, none⟩) n n, .slice a n cap]).run Tryz.prog (w.alloc (.cells (madeCells #[.int .i64 0] n) 3)) = .ok (.int .i64 n) (w.alloc (.cells (intsV l).toArray 3)) := by
  by_cases h0 : n = 0
  · subst h0
    obtain rfl : l = [] := List.eq_nil_of_length_eq_zero hl
    rw [run_copy_none (P := Tryz.prog) _ 30 30 3 3 _ _ 0 0 0 cap Tryz.underlying30 size3 (by simp), show madeCells #[.int .i64 0] 0 = #[] from by simp [madeCells]]
    rfl
  · obtain ⟨g, off, rfl, hc⟩ := hr (by omega)
    have hlen : (intsV l).length = n := by rw [intsV_len, hl]
    rw [run_copy_row (P := Tryz.prog) _ 30 30 3 3 w.heap.size 0 n n ⟨g, off, none⟩ n cap (madeCells #[.int .i64 0] n) 3 (intsV l) Tryz.underlying30 size3 (heap_alloc_new w _) (by rw [hlen]; simp) (fun j v hv => by obtain ⟨hj, rfl⟩ := intsV_at hv; rw [add_at]; exact hc j hj) (by rw [hlen]; simp [madeCells]) intsV_one]
    rw [hlen, World.setRow_alloc_new]
    have : List.take 0 (madeCells #[.int .i64 0] n).toList ++ intsV l ++ List.drop (0 + n) (madeCells #[.int .i64 0] n).toList = intsV l := by
      simp [madeCells]
    rw [this]
    rfl
theorem copyI (a : Option Addr) (l : List Int) (n cap : Nat) (hl : l.length = n) (hn : n ≤ 1048576) (w : World) (hr : Rd w a l) :
    Calls Tryz.prog 128 #[.slice a n cap] w fun e w' => e = .returned (.slice (some ⟨w.heap.size, 0, none⟩) n n) ∧ RowAt w' w.heap.size l ∧ Below w.heap.size w w' := by
  have hcp := run_copy_new w a l n cap hl (hr.keep ((Below.refl w.heap.size w).alloc (Nat.le_refl _) _) (Nat.le_refl _))
  have hmk := run_make_row' (P := Tryz.prog) 30 3 (.int .i64 0) 8 Tryz.underlying30 info3 rfl .i64 .i64 n (by omega) (by omega)
  clear hr hl
  go_enter Tryz.func128, Tryz.ntmps128
  go_wp2
  go_ret
  exact ⟨rfl, heap_alloc_new w _, (Below.refl w.heap.size w).alloc (Nat.le_refl _) _⟩
theorem set1_row {w : World} {k i : Nat} {cs : Array Value} {t : TypeId} {x : Value} (h : w.heap[k]? = some (.cells cs t)) : (w.setCell ⟨k, i, none⟩ x).heap[k]? = some (.cells (cs.setIfInBounds i x) t) := by
  simp [World.setCell, Array.getElem?_modify, h]
theorem set_other {w : World} {k j i : Nat} {x : Value} {o : Obj} (h : w.heap[j]? = some o) (hj : j ≠ k) : (w.setCell ⟨k, i, none⟩ x).heap[j]? = some o :=
  (Below.heap_setCell _ _ _ _ hj).trans h
theorem made_ints (n : Nat) : madeCells #[.int .i64 0] n = (intsV (List.replicate n 0)).toArray := by
  apply Array.ext
  · simp [madeCells, intsV]
  · intro j h1 h2
    simp [madeCells, intsV, Nat.mod_one]
theorem own_built3 (w : World) (B : Nat) (hB : B ≤ w.heap.size) : (w.alloc (.cells #[] 3)).ownsRow B 3 1 (.slice (some ⟨w.heap.size, 0, none⟩) 0 0) 0 [] :=
  ⟨rfl, Or.inr ⟨_, 0, #[], rfl, hB, by show (w.heap.push _)[w.heap.size]? = _; simp, Nat.le_refl _, by decide, rfl, rfl⟩⟩
theorem own_lt {w : World} {B e z n : Nat} {v : Value} {xs : List Value} (h : w.ownsRow B e z v n xs) : ∀ g, v.ownBlock = some g → g < w.heap.size := fun k hk => (h.lt k hk).2
theorem own_ge {w : World} {B e z n : Nat} {v : Value} {xs : List Value} (h : w.ownsRow B e z v n xs) : ∀ g, v.ownBlock = some g → B ≤ g := fun k hk => (h.lt k hk).1
theorem own_keep {w w' : World} {B C e z n : Nat} {v : Value} {xs : List Value} (h : w.ownsRow B e z v n xs) (hb : Below C w w') (hlt : ∀ g, v.ownBlock = some g → g < C) : w'.ownsRow B e z v n xs := by
  refine ⟨h.1, ?_⟩
  rcases h.2 with h2 | ⟨g, cap, cur, rfl, hg, hh, h3⟩
  · exact .inl h2
  · exact .inr ⟨g, cap, cur, rfl, hg, by rw [hb.block g (hlt g rfl)]; exact hh, h3⟩
theorem own_mono {w : World} {B C e z n : Nat} {v : Value} {xs : List Value} (h : w.ownsRow B e z v n xs) (hC : C ≤ B) : w.ownsRow C e z v n xs := by
  refine ⟨h.1, ?_⟩
  rcases h.2 with h2 | ⟨g, cap, cur, rfl, hg, h3⟩
  · exact .inl h2
  · exact .inr ⟨g, cap, cur, rfl, by omega, h3⟩
theorem own_setOther {w : World} {B e z n k i : Nat} {v x : Value} {xs : List Value} (h : w.ownsRow B e z v n xs) (hk : ∀ g, v.ownBlock = some g → g ≠ k) : (w.setCell ⟨k, i, none⟩ x).ownsRow B e z v n xs := by
  refine ⟨h.1, ?_⟩
  rcases h.2 with h2 | ⟨g, cap, cur, rfl, hg, hh, h3⟩
  · exact .inl h2
  · exact .inr ⟨g, cap, cur, rfl, hg, set_other hh (hk g rfl), h3⟩
theorem grown_row {w w' : World} {r : Option Nat} {k : Nat} {o : Obj} (hg : w.grownBy w' r) (h : w.heap[k]? = some o) (hne : r ≠ some k) : w'.heap[k]? = some o :=
  (hg.block k (row_lt h) (fun e => hne e.symm)).trans h
def marks (k n : Nat) : List Int := (List.range n).map fun j => ((k + j : Nat) : Int)
theorem marks_len (k n : Nat) : (marks k n).length = n := by simp [marks]
theorem marks_at (k n j : Nat) (h : j < (marks k n).length) : (marks k n)[j] = ((k + j : Nat) : Int) := by simp [marks]
theorem grown_put (w : World) (C i : Nat) (v : Value) : w.grownBy (w.setCell ⟨C, i, none⟩ v) (some C) :=
  ⟨rfl, rfl, rfl, by simp, fun k _ hne => heap_setCell_other w _ k v (fun e => hne (by rw [e]))⟩
theorem heldI (g n k : Nat) (hn : n ≤ 1048576) (hk : k ≤ 1000000) (w : World) (h : RowAt w g (marks k n)) :
    Calls Tryz.prog 122 #[.slice (some ⟨g, 0, none⟩) n n, .int .i64 k] w fun e w' => e = .returned (.int .i64 ((k : Int) + n)) ∧ w' = w := by
  have HROW := aqGA h
  clear h
  go_enter Tryz.func122, Tryz.ntmps122
  go_wp2
  go_loopw [1, 5] (fun kv i wr => ∃ j : Nat, j ≤ n ∧ kv = .int .i64 (k + j : Nat) ∧ i = .int .i64 j ∧ wr = w) (fun _ i _ => n - (intOf i).toNat)
  case atStart => exact ⟨0, Nat.zero_le _, rfl, rfl, rfl⟩
  case round =>
    obtain ⟨j, hj, rfl, rfl, rfl⟩ := hrel
    by_cases hlt : j < n
    · have hm : j < (marks k n).length := by rw [marks_len]; exact hlt
      have hcell := HROW.out.cell j hm
      rw [marks_at] at hcell
      clear hm
      go_wp2
      go_roundw
      case rel => exact ⟨j + 1, by omega, by go_num, by go_num, trivial⟩
      case measure => simp [intOf]; omega
    · obtain rfl : j = n := by omega
      go_wp2
      go_ret
      exact ⟨by go_num, rfl⟩
def upto (l : List Int) (n j : Nat) : List Int := l.take j ++ List.replicate (n - j) 0
theorem upto_zero (l : List Int) (n : Nat) : upto l n 0 = List.replicate n 0 := by simp [upto]
theorem upto_len {l : List Int} {n j : Nat} (hl : l.length = n) (h : j ≤ n) : (upto l n j).length = n := by simp [upto]; omega
theorem upto_all {l : List Int} {n : Nat} (hl : l.length = n) : upto l n n = l := by simp [upto]; exact List.take_of_length_le (by omega)
theorem upto_set {l : List Int} {n j : Nat} (hl : l.length = n) (h : j < n) (hj : j < l.length) : (upto l n j).set j l[j] = upto l n (j + 1) := by
  have h1 : (l.take j).length = j := by simp; omega
  unfold upto
  obtain ⟨m, hm⟩ : ∃ m, n - j = m + 1 := ⟨n - j - 1, by omega⟩
  rw [hm, show n - (j + 1) = m by omega, List.replicate_succ, List.set_append_right _ _ (by omega), h1, Nat.sub_self, List.set_cons_zero, List.take_succ_eq_append_getElem hj, List.append_assoc]
  rfl
theorem mod_lo (n : Int) (h : n.tmod 65536 < 0) : n.tmod 65536 + 65536 = n % 65536 := by
  rw [Int.tmod_eq_emod] at h ⊢
  split at h
  · rename_i hh
    omega
  · rename_i hh
    rw [if_neg hh]
    simp
theorem mod_hi (n : Int) (h : ¬ n.tmod 65536 < 0) : n.tmod 65536 = n % 65536 := by
  have h1 : n.tmod 65536 < 65536 := Int.tmod_lt_of_pos n (by decide)
  have h2 : n = 65536 * (n.tdiv 65536) + n.tmod 65536 := (Int.mul_tdiv_add_tmod n 65536).symm
  omega
end Go.Proofs.YtfhhnelffldggaaGreatDoor.G
namespace Go.Proofs.YtfhhnelffldggaaGreatDoor.G
open Go.ChangeShapes Go.WideShapes Go.ChangeAt Go.RowKit Go.PlainAid
set_option linter.unusedVariables false
def IsRow (k : IntKind) (w : World) (a : Option Addr) (len cap : Nat) (zs : List Int) : Prop :=
  (a = none ∧ len = 0 ∧ cap = 0 ∧ zs = []) ∨
  ∃ x, a = some x ∧ len ≤ cap ∧ cap ≤ maxLen ∧ zs.length = cap ∧ (∀ i, i < zs.length → w.cell? (x.add i) = some (.int k (zs.getD i 0))) ∧ ∀ n ∈ zs, (Lit.int k n).wf = true
def LL (w W : World) (a : Option Addr) (l : List Int) : Prop := Below w.heap.size w W ∧ Rd W a l ∧ w.heap.size + 1 < W.heap.size
def SL (w W : World) (a : Option Addr) (l : List Int) (u x y : Value) : Prop := W.cell? ⟨w.heap.size, 0, none⟩ = some u ∧ W.cell? ⟨w.heap.size + 1, 0, none⟩ = some x ∧ W.cell? ⟨w.heap.size + 1, 1, none⟩ = some y ∧ LL w W a l
theorem SL.keep {w W W' : World} {a : Option Addr} {l : List Int} {u x y : Value} (h : SL w W a l u x y) (hb : Below W.heap.size W W') : SL w W' a l u x y := by
  obtain ⟨h1, h2, h3, h4, h5, h6⟩ := h
  have hs := hb.size
  exact ⟨(hb.cell (p := ⟨w.heap.size, 0, none⟩) (show w.heap.size < W.heap.size by omega)).trans h1, (hb.cell (p := ⟨w.heap.size + 1, 0, none⟩) h6).trans h2, (hb.cell (p := ⟨w.heap.size + 1, 1, none⟩) h6).trans h3, h4.trans (hb.mono h4.size), h5.keep hb (Nat.le_refl _), by omega⟩
theorem SL.alloc {w W : World} {a : Option Addr} {l : List Int} {u x y : Value} (h : SL w W a l u x y) (o : Obj) : SL w (W.alloc o) a l u x y := h.keep ((Below.refl _ _).alloc (Nat.le_refl _) _)
def LX (w W : World) (a : Option Addr) (l : List Int) (b g : Nat) : Prop := LL w W a l ∧ RowAt W g l ∧ b < W.heap.size ∧ w.heap.size + 1 < b ∧ w.heap.size ≤ g
def SX (w W : World) (a : Option Addr) (l : List Int) (u x y z : Value) (b g : Nat) : Prop := W.cell? ⟨b, 0, none⟩ = some z ∧ W.cell? ⟨w.heap.size, 0, none⟩ = some u ∧ W.cell? ⟨w.heap.size + 1, 0, none⟩ = some x ∧ W.cell? ⟨w.heap.size + 1, 1, none⟩ = some y ∧ LX w W a l b g
theorem SX.sl {w W : World} {a : Option Addr} {l : List Int} {u x y z : Value} {b g : Nat} (h : SX w W a l u x y z b g) : SL w W a l u x y := ⟨h.2.1, h.2.2.1, h.2.2.2.1, h.2.2.2.2.1⟩
theorem SX.row {w W : World} {a : Option Addr} {l : List Int} {u x y z : Value} {b g : Nat} (h : SX w W a l u x y z b g) : RowAt W g l := h.2.2.2.2.2.1
theorem SX.below {w W : World} {a : Option Addr} {l : List Int} {u x y z : Value} {b g : Nat} (h : SX w W a l u x y z b g) : Below w.heap.size w W := h.2.2.2.2.1.1
theorem SX.keep {w W W' : World} {a : Option Addr} {l : List Int} {u x y z : Value} {b g : Nat} (h : SX w W a l u x y z b g) (hb : Below W.heap.size W W') : SX w W' a l u x y z b g := by
  have h2 := h.sl.keep hb
  have hs := hb.size
  obtain ⟨h0, _, _, _, hx⟩ := h
  obtain ⟨_, hr, hb1, hb2, hb3⟩ := hx
  exact ⟨(hb.cell (p := ⟨b, 0, none⟩) hb1).trans h0, h2.1, h2.2.1, h2.2.2.1, h2.2.2.2, hr.keep hb hr.lt, by omega, hb2, hb3⟩
theorem own_rd' {w : World} {B n c : Nat} {q : Option Addr} {l : List Int} (h : w.ownsRow B 3 1 (.slice q n c) n (intsV l)) : Rd w q l := by
  obtain ⟨a, cap, hv, _, _, hr⟩ := own_rd h
  cases hv
  exact hr
theorem own_grown {w w' : World} {B C e z n : Nat} {v : Value} {xs : List Value} (h : w.ownsRow B e z v n xs) (hg : w.grownBy w' (some C)) (hne : ∀ g, v.ownBlock = some g → g ≠ C) : w'.ownsRow B e z v n xs :=
  h.kept hg (by
    cases hv : v.ownBlock with
    | none => exact .inl rfl
    | some g => exact .inr (fun e => hne g hv (by cases e; rfl)))
theorem SL.grown {w W W' : World} {a : Option Addr} {l : List Int} {u x y : Value} {g : Nat} (h : SL w W a l u x y) (hr : Rd w a l) (hg : W.grownBy W' (some g)) (h2 : w.heap.size + 2 ≤ g) : SL w W' a l u x y := by
  obtain ⟨h1, h3, h4, h5, h6, h7⟩ := h
  have hs := hg.size
  have hb : Below w.heap.size w W' := h5.grown hg h5.size (fun k hk => by cases hk; omega)
  exact ⟨(hg.cell_far ⟨w.heap.size, 0, none⟩ (show w.heap.size < W.heap.size by omega) (by simp; omega)).trans h1, (hg.cell_far ⟨w.heap.size + 1, 0, none⟩ h7 (by simp; omega)).trans h3, (hg.cell_far ⟨w.heap.size + 1, 1, none⟩ h7 (by simp; omega)).trans h4, hb, hr.keep hb (Nat.le_refl _), by omega⟩
theorem SL.set {w W : World} {a : Option Addr} {l : List Int} {u x y z : Value} {b i : Nat} (h : SL w W a l u x y) (hr : Rd w a l) (hb : w.heap.size + 2 ≤ b) : SL w (W.setCell ⟨b, i, none⟩ z) a l u x y :=
  h.grown hr (grown_put _ _ _ _) hb
theorem RowAt.alloc {w : World} {g : Nat} {l : List Int} (h : RowAt w g l) (o : Obj) : RowAt (w.alloc o) g l := (Below.heap_alloc _ _ _ h.lt).trans h
theorem RowAt.on {w w' : World} {g : Nat} {l : List Int} (h : RowAt w g l) (hb : Below w.heap.size w w') : RowAt w' g l := h.keep hb h.lt
theorem row_on {w w' : World} {k : Nat} {o : Obj} (h : w.heap[k]? = some o) (hb : Below w.heap.size w w') : w'.heap[k]? = some o := row_after h hb (row_lt h)
theorem own_on {w w' : World} {B e z n : Nat} {v : Value} {xs : List Value} (h : w.ownsRow B e z v n xs) (hb : Below w.heap.size w w') : w'.ownsRow B e z v n xs := own_keep h hb (own_lt h)
theorem bel_on {w W W' : World} {B : Nat} (hB : B ≤ w.heap.size) (h : Below B w W) (hb : Below W.heap.size W W') : Below B w W' := h.trans (hb.mono (Nat.le_trans hB h.size))
end Go.Proofs.YtfhhnelffldggaaGreatDoor.G
namespace Go.Proofs.YtfhhnelffldggaaGreatDoor.G.I
open Go.ChangeShapes Go.WideShapes Go.ChangeAt Go.RowKit Go.PlainAid
set_option linter.unusedVariables false
theorem holdsI (l m n : Int) (b : Bool) (hb : decide (l ≤ n ∧ n ≤ m) = b) (w : World) : Calls Tryz.prog 111 #[.agg #[.int .i64 l, .int .i64 m], .int .i64 n] w fun e w' => e = .returned (.bool b) ∧ Below w.heap.size w w' := by
  go_enter Tryz.func111, Tryz.ntmps111
  by_cases h1 : l ≤ n
  · by_cases h2 : n ≤ m
    · go_wp2
      go_ret
      exact ⟨by rw [← hb, decide_eq_true ⟨h1, h2⟩]; rfl, (Below.refl _ _).alloc (Nat.le_refl _) _⟩
    · go_wp2
      go_ret
      exact ⟨by rw [← hb, decide_eq_false (fun h => by omega)]; rfl, (Below.refl _ _).alloc (Nat.le_refl _) _⟩
  · go_wp2
    go_ret
    exact ⟨by rw [← hb, decide_eq_false (fun h => by omega)]; rfl, (Below.refl _ _).alloc (Nat.le_refl _) _⟩
theorem inS (l m n : Int) (b : Bool) (hb : decide (l ≤ n ∧ n ≤ m) = b) (w : World) : Calls Tryz.prog 97 #[.int .i64 n, .int .i64 l, .int .i64 m] w fun e w' => e = .returned (.bool b) ∧ w' = w := by
  go_enter Tryz.func97, Tryz.ntmps97
  by_cases h1 : l ≤ n
  · by_cases h2 : n ≤ m
    · go_wp2
      go_ret
      exact ⟨by rw [← hb, decide_eq_true ⟨h1, h2⟩]; rfl, rfl⟩
    · go_wp2
      go_ret
      exact ⟨by rw [← hb, decide_eq_false (fun h => by omega)]; rfl, rfl⟩
  · go_wp2
    go_ret
    exact ⟨by rw [← hb, decide_eq_false (fun h => by omega)]; rfl, rfl⟩
theorem heap_new (w : World) (o : Obj) : (w.alloc o).heap[w.heap.size]? = some o := by
  show (w.heap.push _)[w.heap.size]? = _
  simp
theorem row_lt {w : World} {k : Nat} {o : Obj} (h : w.heap[k]? = some o) : k < w.heap.size := by
  rcases Nat.lt_or_ge k w.heap.size with h' | h'
  · exact h'
  · rw [Array.getElem?_eq_none h'] at h; cases h
theorem row_after {w W' : World} {k B : Nat} {o : Obj} (h : w.heap[k]? = some o) (hb : Below B w W') (hk : k < B) : W'.heap[k]? = some o :=
  (hb.block k hk).trans h
theorem row2_cells {w : World} {k : Nat} {t : TypeId} {x y : Value} (h : w.heap[k]? = some (.cells #[x, y] t)) :
    w.cell? ⟨k, 0, none⟩ = some x ∧ w.cell? ⟨k, 1, none⟩ = some y ∧ w.frozen? ⟨k, 0, none⟩ = false ∧ w.frozen? ⟨k, 1, none⟩ = false := by
  refine ⟨?_, ?_, ?_, ?_⟩ <;> simp [World.cell?, World.frozen?, h]
theorem add_at (g o j : Nat) : (⟨g, o, none⟩ : Addr).add j = ⟨g, o + j, none⟩ := by
  unfold Addr.add; split <;> simp_all
theorem own_lt {w : World} {B e z n : Nat} {v : Value} {xs : List Value} (h : w.ownsRow B e z v n xs) : ∀ g, v.ownBlock = some g → g < w.heap.size := fun k hk => (h.lt k hk).2
theorem own_ge {w : World} {B e z n : Nat} {v : Value} {xs : List Value} (h : w.ownsRow B e z v n xs) : ∀ g, v.ownBlock = some g → B ≤ g := fun k hk => (h.lt k hk).1
theorem own_keep {w w' : World} {B C e z n : Nat} {v : Value} {xs : List Value} (h : w.ownsRow B e z v n xs) (hb : Below C w w') (hlt : ∀ g, v.ownBlock = some g → g < C) : w'.ownsRow B e z v n xs := by
  refine ⟨h.1, ?_⟩
  rcases h.2 with h2 | ⟨g, cap, cur, rfl, hg, hh, h3⟩
  · exact .inl h2
  · exact .inr ⟨g, cap, cur, rfl, hg, by rw [hb.block g (hlt g rfl)]; exact hh, h3⟩
theorem own_mono {w : World} {B C e z n : Nat} {v : Value} {xs : List Value} (h : w.ownsRow B e z v n xs) (hC : C ≤ B) : w.ownsRow C e z v n xs := by
  refine ⟨h.1, ?_⟩
  rcases h.2 with h2 | ⟨g, cap, cur, rfl, hg, h3⟩
  · exact .inl h2
  · exact .inr ⟨g, cap, cur, rfl, by omega, h3⟩
theorem row_on {w w' : World} {k : Nat} {o : Obj} (h : w.heap[k]? = some o) (hb : Below w.heap.size w w') : w'.heap[k]? = some o := row_after h hb (row_lt h)
theorem bel_on {w W W' : World} {B : Nat} (hB : B ≤ w.heap.size) (h : Below B w W) (hb : Below W.heap.size W W') : Below B w W' := h.trans (hb.mono (Nat.le_trans hB h.size))
def RdR (w : World) (a : Option Addr) (rl : List (Int × Int)) : Prop := 0 < rl.length → ∃ g off, a = some ⟨g, off, none⟩ ∧ ∀ j (h : j < rl.length), w.cell? ⟨g, off + j * 2, none⟩ = some (.int .i64 rl[j].1) ∧ w.cell? ⟨g, off + j * 2 + 1, none⟩ = some (.int .i64 rl[j].2)
theorem RdR.keep {w w' : World} {a : Option Addr} {rl : List (Int × Int)} {B : Nat} (h : RdR w a rl) (hb : Below B w w') (hB : w.heap.size ≤ B) : RdR w' a rl := fun h0 => by
  obtain ⟨g, off, ha, hc⟩ := h h0
  refine ⟨g, off, ha, fun j hj => ?_⟩
  obtain ⟨h1, h2⟩ := hc j hj
  have hlt := Nat.lt_of_lt_of_le (World.block_lt_of_cell? w ⟨g, off + j * 2, none⟩ h1) hB
  exact ⟨(hb.cell (p := ⟨g, off + j * 2, none⟩) hlt).trans h1, (hb.cell (p := ⟨g, off + j * 2 + 1, none⟩) hlt).trans h2⟩
theorem own_gr {w w' : World} {B C e z n : Nat} {v : Value} {xs : List Value} (h : w.ownsRow B e z v n xs) (hg : w.grownBy w' (some C)) (hC : C < B) : w'.ownsRow B e z v n xs :=
  h.kept hg (by
    cases hv : v.ownBlock with
    | none => exact .inl rfl
    | some g => exact .inr (fun e => by cases e; have := own_ge h C hv; omega))
end Go.Proofs.YtfhhnelffldggaaGreatDoor.G.I
namespace Go.Proofs.YtfhhnelffldggaaGreatDoor.G.I
open Go.RowKit Go.PlainAid
set_option linter.unusedVariables false
theorem RdR.on {w w' : World} {a : Option Addr} {rl : List (Int × Int)} (h : RdR w a rl) (hb : Below w.heap.size w w') : RdR w' a rl := h.keep hb (Nat.le_refl _)
end Go.Proofs.YtfhhnelffldggaaGreatDoor.G.I
namespace Go.Proofs.YtfhhnelffldggaaGreatDoor.G
open Go.RowKit Go.PlainAid
set_option linter.unusedVariables false
theorem box2 (w : World) (x y : Value) (t : TypeId) : (w.alloc (.cells #[x, y] t)).heap[w.heap.size]? = some (.cells #[x, y] t) ∧ Below w.heap.size w (w.alloc (.cells #[x, y] t)) ∧ (w.alloc (.cells #[x, y] t)).heap.size = w.heap.size + 1 :=
  ⟨heap_new w _, (Below.refl _ _).alloc (Nat.le_refl _) _, by simp⟩
end Go.Proofs.YtfhhnelffldggaaGreatDoor.G
namespace Go.Proofs.YtfhhnelffldggaaGreatDoor.G
open Go.ChangeShapes Go.WideShapes Go.ChangeAt Go.RowKit Go.PlainAid
set_option linter.unusedVariables false
def OwnN (w : World) (B g n c : Nat) (l : List Int) : Prop := w.ownsRow B 3 1 (.slice (some ⟨g, 0, none⟩) n c) n (intsV l)
theorem OwnN.len {w : World} {B g n c : Nat} {l : List Int} (h : OwnN w B g n c l) : l.length = n := by
  have := h.1; rw [intsV_len] at this; omega
theorem OwnN.ge {w : World} {B g n c : Nat} {l : List Int} (h : OwnN w B g n c l) : B ≤ g := own_ge h g rfl
theorem OwnN.lt {w : World} {B g n c : Nat} {l : List Int} (h : OwnN w B g n c l) : g < w.heap.size := Go.Proofs.YtfhhnelffldggaaGreatDoor.G.own_lt h g rfl
theorem OwnN.on {w w' : World} {B g n c : Nat} {l : List Int} (h : OwnN w B g n c l) (hb : Below w.heap.size w w') : OwnN w' B g n c l := own_on h hb
theorem OwnN.mono {w : World} {B C g n c : Nat} {l : List Int} (h : OwnN w B g n c l) (hC : C ≤ B) : OwnN w C g n c l := own_mono h hC
theorem OwnN.rd {w : World} {B g n c : Nat} {l : List Int} (h : OwnN w B g n c l) : Rd w (some ⟨g, 0, none⟩) l := own_rd' h
theorem OwnN.grown {w w' : World} {B g n c C : Nat} {l : List Int} (h : OwnN w B g n c l) (hg : w.grownBy w' (some C)) (hne : C ≠ g) : OwnN w' B g n c l :=
  own_grown h hg (fun k hk => by simp [Value.ownBlock] at hk; omega)
theorem RowAt.ownN {w : World} {g B n : Nat} {l : List Int} (h : RowAt w g l) (hB : B ≤ g) (hl : l.length = n) (hn : n ≤ 1048576) : OwnN w B g n n l := by
  subst hl; exact h.owns hB (by unfold maxLen; omega)
theorem OwnN.alloc {w : World} {B g n c : Nat} {l : List Int} (h : OwnN w B g n c l) (o : Obj) : OwnN (w.alloc o) B g n c l := h.on ((Below.refl _ _).alloc (Nat.le_refl _) _)
theorem cell_on {W W' : World} {p : Addr} {v : Value} (h : W.cell? p = some v) (hb : Below W.heap.size W W') : W'.cell? p = some v := (hb.cell (World.block_lt_of_cell? W p h)).trans h
theorem Rd.on {w w' : World} {a : Option Addr} {l : List Int} (h : Rd w a l) (hb : Below w.heap.size w w') : Rd w' a l := h.keep hb (Nat.le_refl _)
end Go.Proofs.YtfhhnelffldggaaGreatDoor.G
namespace Go.Proofs.YtfhhnelffldggaaGreatDoor.G
open Go.RowKit Go.PlainAid
set_option linter.unusedVariables false
theorem run_appN (W : World) (ty : TypeId) (B g n c : Nat) (l : List Int) (q : Option Addr) (m cx : Nat) (l' : List Int) (hown : OwnN W B g n c l) (hl : l'.length = m) (hq : q = none → m = 0 ∧ cx = 0) (hr : Rd W q l') (hn : n + m ≤ 3000000) (hB : B ≤ W.heap.size) :
    ∃ g' c' w', (Builtin.append_ #[30, 30] ty #[.slice (some ⟨g, 0, none⟩) n c, .slice q m cx]).run Tryz.prog W = .ok (.slice (some ⟨g', 0, none⟩) (n + m) c') w' ∧ OwnN w' B g' (n + m) c' (l ++ l') ∧ W.grownBy w' (some g) ∧ (g' = g ∨ g' = W.heap.size) := by
  obtain ⟨i0, hi, hz0, hz1, hz2⟩ := info_parts info3
  cases q with
  | none =>
    obtain ⟨rfl, rfl⟩ := hq rfl
    refine ⟨g, c, W, ?_, ?_, World.grownBy.refl _ _, .inl rfl⟩
    · exact run_append_owned_none (P := Tryz.prog) (w := W) B 30 ty 3 i0 1 Tryz.underlying30 hi _ n _ hown
    · rw [List.length_eq_zero_iff.1 hl, List.append_nil]; exact hown
  | some ad =>
    obtain ⟨v', w', hrun, h2, h3, h4, h5⟩ := run_append_own_at (P := Tryz.prog) W B 30 ty 3 i0 (.int .i64 0) 1 8 Tryz.underlying30 hi hz0 hz1 hz2 rfl (by decide) _ n _ hown ad m cx (intsV l') (by rw [intsV_len, hl]; simp) (fun j u hu => by
      obtain ⟨hj, rfl⟩ := intsV_at hu
      obtain ⟨b, off, ha, hc⟩ := hr (by omega)
      cases ha
      rw [add_at]
      exact hc j hj) intsV_one (by unfold maxLen; omega) (by omega) hB
    rcases h2.2 with ⟨hv, _⟩ | ⟨g', cap, cur, rfl, _⟩
    · have := h4.1 hv; simp at this
    · refine ⟨g', cap, w', hrun, ?_, h3, ?_⟩
      · unfold OwnN
        rw [show intsV (l ++ l') = intsV l ++ intsV l' by simp [intsV]]
        exact h2
      · simp [Value.ownBlock] at h5
        exact h5
theorem wpN {o : Oper} {a : Act} {K : Act → World → Prop} {Q : Exit → Act → World → Prop} (W : World) (s x : Operand)
    (ho : o.op = .call { callee := .builtin .append, args := #[s, x], argTypes := #[30, 30] }) (B g n c : Nat) (l : List Int) (q : Option Addr) (m cx : Nat) (l' : List Int)
    (hs : a.eval s = .slice (some ⟨g, 0, none⟩) n c) (hx : a.eval x = .slice q m cx) (hown : OwnN W B g n c l) (hl : l'.length = m) (hq : q = none → m = 0 ∧ cx = 0) (hr : Rd W q l') (hn : n + m ≤ 3000000) (hB : B ≤ W.heap.size)
    (h : ∀ g' c' w', OwnN w' B g' (n + m) c' (l ++ l') → W.grownBy w' (some g) → (g' = g ∨ g' = W.heap.size) → K (a.put o.dst (.slice (some ⟨g', 0, none⟩) (n + m) c')) w') : o.wp Tryz.prog a W K Q := by
  obtain ⟨g', c', w', hrun, h2, h3, h4⟩ := run_appN W o.type B g n c l q m cx l' hown hl hq hr hn hB
  unfold Oper.wp execOp
  simp only [ho, resolve, invoke, builtin, Sem.run_bind, Sem.run_pure, Result.andThen_ok, List.map_toArray, List.map_cons, List.map_nil, hs, hx, hrun]
  exact h g' c' w' h2 h3 h4
theorem listN {ops : Array Oper} {rest : List Oper} {o : Oper} {a : Act} {Q : Exit → Act → World → Prop} {W : World} (hgd : o.guard = none) (s x : Operand)
    (ho : o.op = .call { callee := .builtin .append, args := #[s, x], argTypes := #[30, 30] }) (B g n c : Nat) (l : List Int) (q : Option Addr) (m cx : Nat) (l' : List Int)
    (hs : a.eval s = .slice (some ⟨g, 0, none⟩) n c) (hx : a.eval x = .slice q m cx) (hown : OwnN W B g n c l) (hl : l'.length = m) (hq : q = none → m = 0 ∧ cx = 0) (hr : Rd W q l') (hn : n + m ≤ 3000000) (hB : B ≤ W.heap.size)
    (h : ∀ g' c' w', OwnN w' B g' (n + m) c' (l ++ l') → W.grownBy w' (some g) → (g' = g ∨ g' = W.heap.size) → wpList Tryz.prog ops Q rest (a.put o.dst (.slice (some ⟨g', 0, none⟩) (n + m) c')) w') : wpList Tryz.prog ops Q (o :: rest) a W :=
  wpList_plain hgd fun _ hK => wpN W s x ho B g n c l q m cx l' hs hx hown hl hq hr hn hB fun g' c' w' h2 h3 h4 => hK _ _ (h g' c' w' h2 h3 h4)
theorem anyN {ops : Array Oper} {o : Oper} {a : Act} {K : Act → World → Prop} {Q : Exit → Act → World → Prop} {E : Prop} {W : World} (hw : Region.wanted o (yielded ops a.tmps) = true) (s x : Operand)
    (ho : o.op = .call { callee := .builtin .append, args := #[s, x], argTypes := #[30, 30] }) (B g n c : Nat) (l : List Int) (q : Option Addr) (m cx : Nat) (l' : List Int)
    (hs : a.eval s = .slice (some ⟨g, 0, none⟩) n c) (hx : a.eval x = .slice q m cx) (hown : OwnN W B g n c l) (hl : l'.length = m) (hq : q = none → m = 0 ∧ cx = 0) (hr : Rd W q l') (hn : n + m ≤ 3000000) (hB : B ≤ W.heap.size)
    (h : ∀ g' c' w', OwnN w' B g' (n + m) c' (l ++ l') → W.grownBy w' (some g) → (g' = g ∨ g' = W.heap.size) → K (a.put o.dst (.slice (some ⟨g', 0, none⟩) (n + m) c')) w') :
    if Region.wanted o (yielded ops a.tmps) = true then Oper.wp Tryz.prog o a W K Q else E := by
  rw [if_pos hw]
  exact wpN W s x ho B g n c l q m cx l' hs hx hown hl hq hr hn hB h
theorem box2b (w : World) (x y x' y' : Value) (t r : TypeId) :
    ((w.alloc (.cells #[x, y] t)).alloc (.cells #[x', y'] r)).heap[w.heap.size]? = some (.cells #[x, y] t) ∧ ((w.alloc (.cells #[x, y] t)).alloc (.cells #[x', y'] r)).heap[w.heap.size + 1]? = some (.cells #[x', y'] r) ∧ Below w.heap.size w ((w.alloc (.cells #[x, y] t)).alloc (.cells #[x', y'] r)) ∧ ((w.alloc (.cells #[x, y] t)).alloc (.cells #[x', y'] r)).heap.size = w.heap.size + 2 := by
  have h0 := heap_new w (.cells #[x, y] t)
  have h1 := heap_new (w.alloc (.cells #[x, y] t)) (.cells #[x', y'] r)
  refine ⟨(Below.heap_alloc _ _ _ (by simp)).trans h0, by simpa using h1, ((Below.refl _ _).alloc (Nat.le_refl _) _).alloc (by simp) _, by simp⟩
theorem l6_set {w W : World} {x y : Value} {k i : Nat} {z : Value} (hk : w.heap.size < k) (h : W.cell? ⟨w.heap.size, 0, none⟩ = some x ∧ W.cell? ⟨w.heap.size, 1, none⟩ = some y ∧ Below w.heap.size w W) :
    (W.setCell ⟨k, i, none⟩ z).cell? ⟨w.heap.size, 0, none⟩ = some x ∧ (W.setCell ⟨k, i, none⟩ z).cell? ⟨w.heap.size, 1, none⟩ = some y ∧ Below w.heap.size w (W.setCell ⟨k, i, none⟩ z) := by
  refine ⟨?_, ?_, h.2.2.setCell (by simp; omega) _⟩
  · rw [World.cell?_of_block (w := W) (Below.heap_setCell _ _ _ _ (by simp; omega))]; exact h.1
  · rw [World.cell?_of_block (w := W) (Below.heap_setCell _ _ _ _ (by simp; omega))]; exact h.2.1
theorem l6_grown {w W W' : World} {x y : Value} {r : Nat} (h : W.cell? ⟨w.heap.size, 0, none⟩ = some x ∧ W.cell? ⟨w.heap.size, 1, none⟩ = some y ∧ Below w.heap.size w W) (hg : W.grownBy W' (some r)) (hr : w.heap.size < r) :
    W'.cell? ⟨w.heap.size, 0, none⟩ = some x ∧ W'.cell? ⟨w.heap.size, 1, none⟩ = some y ∧ Below w.heap.size w W' := by
  have hlt := World.block_lt_of_cell? W ⟨w.heap.size, 0, none⟩ h.1
  exact ⟨(hg.cell_far ⟨w.heap.size, 0, none⟩ hlt (by simp; omega)).trans h.1, (hg.cell_far ⟨w.heap.size, 1, none⟩ hlt (by simp; omega)).trans h.2.1, h.2.2.grown hg h.2.2.size (fun k hk => by cases hk; omega)⟩
theorem l6_alloc {w W : World} {x y : Value} (h : W.cell? ⟨w.heap.size, 0, none⟩ = some x ∧ W.cell? ⟨w.heap.size, 1, none⟩ = some y ∧ Below w.heap.size w W) (o : Obj) :
    (W.alloc o).cell? ⟨w.heap.size, 0, none⟩ = some x ∧ (W.alloc o).cell? ⟨w.heap.size, 1, none⟩ = some y ∧ Below w.heap.size w (W.alloc o) := by
  have hb : Below W.heap.size W (W.alloc o) := (Below.refl _ _).alloc (Nat.le_refl _) _
  exact ⟨cell_on h.1 hb, cell_on h.2.1 hb, h.2.2.alloc h.2.2.size _⟩
theorem own_new (w : World) (B : Nat) (hB : B ≤ w.heap.size) : OwnN (w.alloc (.cells #[] 3)) B w.heap.size 0 0 [] := own_built3 w B hB
theorem Rd.drew {w : World} {a : Option Addr} {l : List Int} (h : Rd w a l) : Rd w.drew a l := h
theorem OwnN.drew {w : World} {B g n c : Nat} {l : List Int} (h : OwnN w B g n c l) : OwnN w.drew B g n c l := h
theorem OwnN.set {w : World} {B g n c k i : Nat} {l : List Int} {x : Value} (h : OwnN w B g n c l) (hk : g ≠ k) : OwnN (w.setCell ⟨k, i, none⟩ x) B g n c l := own_setOther h (fun j hj => by simp [Value.ownBlock] at hj; omega)
end Go.Proofs.YtfhhnelffldggaaGreatDoor.G
namespace Go.Proofs.YtfhhnelffldggaaGreatDoor
open Go.ChangeShapes Go.WideShapes Go.ChangeAt Go.RowKit Go.Deep Go.PlainAid
set_option linter.unusedVariables false
theorem alI (w : World) (o : Obj) : Below w.heap.size w (w.alloc o) := (Below.refl _ _).alloc (Nat.le_refl _) _
theorem box3i_cells {w : World} {k : Nat} {t : TypeId} {x0 x1 x2 : Value} (h : w.heap[k]? = some (.cells #[x0, x1, x2] t)) :
    (w.cell? ⟨k, 0, none⟩ = some x0 ∧ w.cell? ⟨k, 1, none⟩ = some x1 ∧ w.cell? ⟨k, 2, none⟩ = some x2) ∧ w.frozen? ⟨k, 0, none⟩ = false ∧ w.frozen? ⟨k, 1, none⟩ = false ∧ w.frozen? ⟨k, 2, none⟩ = false := by
  refine ⟨⟨?_, ?_, ?_⟩, ?_, ?_, ?_⟩ <;> simp [World.cell?, World.frozen?, h]
theorem inokS (b : Int) (K L : ByteArray) (B : Bool) (hB : decide ((0 ≤ b ∧ b ≤ 15) ∧ K.size ≤ 20 ∧ L.size ≤ 40) = B) (w : World) : Calls Tryz.prog 33 #[.agg #[.int .i64 b, .string K, .string L]] w fun e w' => e = .returned (.bool B) ∧ Below w.heap.size w w' := by
  have HB := hq hB
  have HP : Hid ((w.alloc (.cells #[.int .i64 b, .string K, .string L] 46)).heap[w.heap.size]? = some (.cells #[.int .i64 b, .string K, .string L] 46)) := heap_new w _
  have HW : Hid (Below w.heap.size w (w.alloc (.cells #[.int .i64 b, .string K, .string L] 46))) := alI _ _
  obtain ⟨B1, hB1⟩ : ∃ B1, decide (0 ≤ b ∧ b ≤ 15) = B1 := ⟨_, rfl⟩
  have H1 := hq hB1
  have p := box3i_cells HP.out
  clear hB hB1
  go_enter Tryz.func33, Tryz.ntmps33
  go_wp2_with fail
  refine (H.senseS b B1 H1.out _).mono ?_
  rintro e W ⟨rfl, hW⟩
  have HW1 : Hid (Below w.heap.size w W) := by rw [hW]; exact HW.out
  have p1 := p
  rw [← hW] at p1
  clear hW HW HP p
  cases B1
  · obtain rfl : false = B := by rw [← HB.out]; exact (decide_eq_false (fun h => absurd h.1 (of_decide_eq_false H1.out))).symm
    go_wp2
    go_ret
    exact ⟨rfl, HW1.out⟩
  have h1 := of_decide_eq_true H1.out
  by_cases hk : K.size ≤ 20
  case neg =>
    obtain rfl : false = B := by rw [← HB.out]; exact (decide_eq_false (fun h => hk h.2.1)).symm
    have hk' : ¬ (K.size : Int) ≤ 20 := by omega
    go_wp2
    go_ret
    exact ⟨rfl, HW1.out⟩
  have hk' : (K.size : Int) ≤ 20 := by omega
  by_cases hl : L.size ≤ 40
  · obtain rfl : true = B := by rw [← HB.out]; exact (decide_eq_true ⟨h1, hk, hl⟩).symm
    have hl' : (L.size : Int) ≤ 40 := by omega
    clear h1
    go_wp2
    go_ret
    exact ⟨rfl, HW1.out⟩
  · obtain rfl : false = B := by rw [← HB.out]; exact (decide_eq_false (fun h => hl h.2.2)).symm
    have hl' : ¬ (L.size : Int) ≤ 40 := by omega
    clear h1
    go_wp2
    go_ret
    exact ⟨by show Ending.returned (Value.bool (decide ((L.size : Int) ≤ 40))) = _; rw [decide_eq_false (by omega)], HW1.out⟩
end Go.Proofs.YtfhhnelffldggaaGreatDoor
namespace Go.Proofs.YtfhhnelffldggaaGreatDoor
open Go.RowKit Go.Deep Go.PlainAid
set_option linter.unusedVariables false
theorem inokI (b : Int) (K L : ByteArray) (B : Bool) (hB : decide ((0 ≤ b ∧ b ≤ 15) ∧ K.size ≤ 20 ∧ L.size ≤ 40) = B) (w : World) : Calls Tryz.prog 19 #[.agg #[.int .i64 b, .string K, .string L]] w fun e w' => e = .returned (.bool B) ∧ Below w.heap.size w w' := by
  have HB := hq hB
  have HP : Hid ((w.alloc (.cells #[.int .i64 b, .string K, .string L] 46)).heap[w.heap.size]? = some (.cells #[.int .i64 b, .string K, .string L] 46)) := heap_new w _
  have HW : Hid (Below w.heap.size w (w.alloc (.cells #[.int .i64 b, .string K, .string L] 46))) := alI _ _
  obtain ⟨B1, hB1⟩ : ∃ B1, decide (0 ≤ b ∧ b ≤ 15) = B1 := ⟨_, rfl⟩
  have H1 := hq hB1
  have p := box3i_cells HP.out
  clear hB hB1
  go_enter Tryz.func19, Tryz.ntmps19
  go_wp2_with fail
  refine (H.senseI b B1 H1.out _).mono ?_
  rintro e W ⟨rfl, hW⟩
  have HW1 := bq HW hW
  have p1 := box3i_cells (row_on HP.out hW)
  clear hW HW HP p
  cases B1
  · obtain rfl : false = B := by rw [← HB.out]; exact (decide_eq_false (fun h => absurd h.1 (of_decide_eq_false H1.out))).symm
    go_wp2
    go_ret
    exact ⟨rfl, HW1.out⟩
  have h1 := of_decide_eq_true H1.out
  by_cases hk : K.size ≤ 20
  case neg =>
    obtain rfl : false = B := by rw [← HB.out]; exact (decide_eq_false (fun h => hk h.2.1)).symm
    have hk' : ¬ (K.size : Int) ≤ 20 := by omega
    go_wp2
    go_ret
    exact ⟨rfl, HW1.out⟩
  have hk' : (K.size : Int) ≤ 20 := by omega
  by_cases hl : L.size ≤ 40
  · obtain rfl : true = B := by rw [← HB.out]; exact (decide_eq_true ⟨h1, hk, hl⟩).symm
    have hl' : (L.size : Int) ≤ 40 := by omega
    clear h1
    go_wp2
    go_ret
    exact ⟨rfl, HW1.out⟩
  · obtain rfl : false = B := by rw [← HB.out]; exact (decide_eq_false (fun h => hl h.2.2)).symm
    have hl' : ¬ (L.size : Int) ≤ 40 := by omega
    clear h1
    go_wp2
    go_ret
    exact ⟨by show Ending.returned (Value.bool (decide ((L.size : Int) ≤ 40))) = _; rw [decide_eq_false (by omega)], HW1.out⟩
end Go.Proofs.YtfhhnelffldggaaGreatDoor
