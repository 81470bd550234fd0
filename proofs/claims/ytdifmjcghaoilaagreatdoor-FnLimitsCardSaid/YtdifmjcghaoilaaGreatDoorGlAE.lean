/-
  Lists of numbers that a call owns, and lists of numbers that are read.
-/
import Derived.Test.YtdifmjcghaoilaaGreatDoorGlAB
import Derived.Laws.Rows
import Derived.Laws.CopyOwn
import Derived.Deep.OwnRows
import Derived.Deep.WholeRow
namespace Go.Proofs.YtdifmjcghaoilaaGreatDoor
open Go.RowKit Go.PlainAid
set_option linter.unusedVariables false

theorem info3 : (Tryz.prog.info? 3).map (fun i => (i.zero, i.size, i.bytes)) = some (some (.int .i64 0), 1, 8) := by kernel_rfl

def intsV (l : List Int) : List Value := l.map (Value.int .i64)

/-- a list of ints that has just been laid -/
theorem laid_ints (w : World) (l : List Int) (j : Nat) (hj : j < l.length) : (w.alloc (.cells (l.map (Value.int .i64)).toArray 3)).cell? ⟨w.heap.size, j, none⟩ = some (.int .i64 l[j]) := by
  rw [cell_of_row _ w.heap.size j _ 3 (0, 0) (heap_alloc_new w _)]
  simp [hj]

theorem size3 : (Tryz.prog.info? 3).map (·.size) = some 1 := by kernel_rfl
theorem intsV_len (l : List Int) : (intsV l).length = l.length := List.length_map ..
theorem intsV_at {l : List Int} {j : Nat} {v : Value} (h : (intsV l)[j]? = some v) : ∃ hj : j < l.length, v = .int .i64 l[j] := by
  have hj : j < l.length := by
    have := (List.getElem?_eq_some_iff.1 h).1
    rw [intsV_len] at this; exact this
  refine ⟨hj, ?_⟩
  simp [intsV, hj] at h
  exact h.symm
theorem intsV_one {l : List Int} : ∀ v ∈ intsV l, v.oneCell' = true := by
  intro v hv
  simp [intsV] at hv
  obtain ⟨x, _, rfl⟩ := hv
  rfl
theorem intsV_set {l : List Int} {j : Nat} {x : Int} : (intsV l).set j (.int .i64 x) = intsV (l.set j x) := by
  unfold intsV; rw [List.map_set]

/-- a list of numbers that is read, wherever it lies -/
def Rd (w : World) (a : Option Addr) (l : List Int) : Prop := 0 < l.length → ∃ g off, a = some ⟨g, off, none⟩ ∧ ∀ j (h : j < l.length), w.cell? ⟨g, off + j, none⟩ = some (.int .i64 l[j])

theorem Rd.keep {w w' : World} {a : Option Addr} {l : List Int} {B : Nat} (h : Rd w a l) (hb : Below B w w') (hB : w.heap.size ≤ B) : Rd w' a l := fun h0 => by
  obtain ⟨g, off, ha, hc⟩ := h h0
  exact ⟨g, off, ha, fun j hj => (hb.cell (p := ⟨g, off + j, none⟩) (Nat.lt_of_lt_of_le (World.block_lt_of_cell? w ⟨g, off + j, none⟩ (hc j hj)) hB)).trans (hc j hj)⟩

/-- a block that is a list of numbers, whole -/
def RowAt (w : World) (g : Nat) (l : List Int) : Prop := w.heap[g]? = some (.cells (intsV l).toArray 3 (0, 0))

theorem RowAt.lt {w : World} {g : Nat} {l : List Int} (h : RowAt w g l) : g < w.heap.size := by
  rcases Nat.lt_or_ge g w.heap.size with h' | h'
  · exact h'
  · unfold RowAt at h; rw [Array.getElem?_eq_none h'] at h; cases h
theorem RowAt.keep {w w' : World} {g B : Nat} {l : List Int} (h : RowAt w g l) (hb : Below B w w') (hg : g < B) : RowAt w' g l := by
  unfold RowAt; rw [hb.block g hg]; exact h
theorem RowAt.cell {w : World} {g : Nat} {l : List Int} (h : RowAt w g l) (j : Nat) (hj : j < l.length) : w.cell? ⟨g, j, none⟩ = some (.int .i64 l[j]) := by
  rw [cell_of_row w g j _ 3 (0, 0) h]
  simp [intsV, hj]
theorem RowAt.free {w : World} {g : Nat} {l : List Int} (h : RowAt w g l) (j : Nat) : w.frozen? ⟨g, j, none⟩ = false := frozen_of_row w g j _ 3 h
theorem RowAt.rd {w : World} {g : Nat} {l : List Int} (h : RowAt w g l) : Rd w (some ⟨g, 0, none⟩) l := fun _ => ⟨g, 0, rfl, fun j hj => by rw [Nat.zero_add]; exact h.cell j hj⟩
theorem RowAt.set {w : World} {g : Nat} {l : List Int} (h : RowAt w g l) (j : Nat) (x : Int) : RowAt (w.setCell ⟨g, j, none⟩ (.int .i64 x)) g (l.set j x) := by
  unfold RowAt at h ⊢
  rw [heap_setCell_same w g j _ 3 (.int .i64 x) h, ← intsV_set]
  simp
theorem RowAt.owns {w : World} {g B : Nat} {l : List Int} (h : RowAt w g l) (hB : B ≤ g) (hl : l.length ≤ maxLen) : w.ownsRow B 3 1 (.slice (some ⟨g, 0, none⟩) l.length l.length) l.length (intsV l) :=
  ⟨by simp [intsV_len], Or.inr ⟨g, l.length, (intsV l).toArray, rfl, hB, h, Nat.le_refl _, hl, by simp [intsV_len], by simp; exact List.take_of_length_le (by rw [intsV_len]; exact Nat.le_refl _)⟩⟩
/-- the list of an owned row is read at its head -/
theorem own_rd {w : World} {B n : Nat} {v : Value} {l : List Int} (h : w.ownsRow B 3 1 v n (intsV l)) : ∃ a cap, v = .slice a n cap ∧ n ≤ cap ∧ l.length = n ∧ Rd w a l := by
  have h' := h
  have hl : l.length = n := by have := h.1; rw [intsV_len] at this; omega
  rcases h.2 with ⟨rfl, e⟩ | ⟨g, cap, cur, rfl, hg, hh, hnc, hcp, hcs, htake⟩
  · exact ⟨none, 0, by rw [e], by omega, hl, fun h0 => by omega⟩
  · refine ⟨_, cap, rfl, hnc, hl, fun _ => ⟨g, 0, rfl, fun j hj => ?_⟩⟩
    rw [Nat.zero_add, h'.cellAt j (by omega)]
    simp [intsV, hj]
end Go.Proofs.YtdifmjcghaoilaaGreatDoor
