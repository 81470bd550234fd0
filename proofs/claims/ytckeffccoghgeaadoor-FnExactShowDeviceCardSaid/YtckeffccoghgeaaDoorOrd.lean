/-
  Orders: which are right, their bytes; OrderOk and OrderText of the specification.
-/
import Derived.Test.YtckeffccoghgeaaDoorBase
namespace Go.Proofs.YtckeffccoghgeaaDoor
open Go.RowKit Go.PlainAid
set_option linter.unusedVariables false
set_option linter.unusedSimpArgs false

theorem inS (l m n : Int) (b : Bool) (hb : decide (l ≤ n ∧ n ≤ m) = b) (w : World) : Calls Tryd.prog 31 #[.int .i64 n, .int .i64 l, .int .i64 m] w fun e w' => e = .returned (.bool b) ∧ w' = w := by
  go_enter Tryd.func31, Tryd.ntmps31
  by_cases h1 : l ≤ n
  · by_cases h2 : n ≤ m
    · go_wp2
      go_ret
      exact ⟨by rw [← hb, decide_eq_true ⟨h1, h2⟩]; rfl, rfl⟩
    · go_wp2
      go_ret
      exact ⟨by rw [← hb, decide_eq_false (fun h => by omega)]; rfl, rfl⟩
  · go_wp2
    go_ret
    exact ⟨by rw [← hb, decide_eq_false (fun h => by omega)]; rfl, rfl⟩

theorem bel_on {w W W' : World} {B : Nat} (hB : B ≤ w.heap.size) (h : Below B w W) (hb : Below W.heap.size W W') : Below B w W' := h.trans (hb.mono (Nat.le_trans hB h.size))
theorem row_lt {w : World} {k : Nat} {o : Obj} (h : w.heap[k]? = some o) : k < w.heap.size := by
  rcases Nat.lt_or_ge k w.heap.size with h' | h'
  · exact h'
  · rw [Array.getElem?_eq_none h'] at h; cases h
theorem row_on {w w' : World} {k : Nat} {o : Obj} (h : w.heap[k]? = some o) (hb : Below w.heap.size w w') : w'.heap[k]? = some o := (hb.block k (row_lt h)).trans h
theorem heap_new (w : World) (o : Obj) : (w.alloc o).heap[w.heap.size]? = some o := by
  show (w.heap.push _)[w.heap.size]? = _
  simp
theorem box4_cells {w : World} {k : Nat} {t : TypeId} {x0 x1 x2 x3 : Value} (h : w.heap[k]? = some (.cells #[x0, x1, x2, x3] t)) :
    (w.cell? ⟨k, 0, none⟩ = some x0 ∧ w.cell? ⟨k, 1, none⟩ = some x1 ∧ w.cell? ⟨k, 2, none⟩ = some x2 ∧ w.cell? ⟨k, 3, none⟩ = some x3) ∧ w.frozen? ⟨k, 0, none⟩ = false ∧ w.frozen? ⟨k, 1, none⟩ = false ∧ w.frozen? ⟨k, 2, none⟩ = false ∧ w.frozen? ⟨k, 3, none⟩ = false := by
  refine ⟨⟨?_, ?_, ?_, ?_⟩, ?_, ?_, ?_, ?_⟩ <;> simp [World.cell?, World.frozen?, h]

/-- a right order -/
def OrdR (k n d v : Int) : Prop := (k = 1 ∧ (1 ≤ d ∧ d ≤ 1000) ∧ (1 ≤ n ∧ n ≤ 1000) ∧ n ≤ 3 * d ∧ (1 ≤ v ∧ v ≤ 5000)) ∨ (k = 2 ∧ (1 ≤ v ∧ v ≤ 100) ∧ n = 0 ∧ d = 0) ∨ ((3 ≤ k ∧ k ≤ 6) ∧ n = 0 ∧ d = 0 ∧ v = 0)
def ordV (k n d v : Int) : Value := .agg #[.int .i64 k, .int .i64 n, .int .i64 d, .int .i64 v]
theorem ord_bool (k n d v : Int) : ∃ b : Bool, b = true ↔ OrdR k n d v := by
  by_cases h : OrdR k n d v
  · exact ⟨true, ⟨fun _ => h, fun _ => rfl⟩⟩
  · exact ⟨false, ⟨fun e => (by cases e), fun e => absurd e h⟩⟩
theorem ord_yes {k n d v : Int} {b : Bool} (hb : b = true ↔ OrdR k n d v) (h : OrdR k n d v) : b = true := hb.2 h
theorem ord_no {k n d v : Int} {b : Bool} (hb : b = true ↔ OrdR k n d v) (h : ¬ OrdR k n d v) : b = false := by
  cases b
  · rfl
  · exact absurd (hb.1 rfl) h
theorem OrdR.bd {k n d v : Int} (h : OrdR k n d v) : (1 ≤ k ∧ k ≤ 6) ∧ (0 ≤ n ∧ n ≤ 1000) ∧ (0 ≤ d ∧ d ≤ 1000) ∧ 0 ≤ v ∧ v ≤ 5000 := by
  unfold OrdR at h
  omega
end Go.Proofs.YtckeffccoghgeaaDoor
