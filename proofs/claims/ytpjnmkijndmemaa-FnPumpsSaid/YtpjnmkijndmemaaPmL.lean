/-
  What the drawn laws of pumps share.
-/
import Derived.Test.YtpjnmkijndmemaaPmI
import Derived.Test.YtpjnmkijndmemaaKSta
import Derived.Test.YtpjnmkijndmemaaStage
import Derived.Test.YtpjnmkijndmemaaPlaces
import Derived.Test.YtpjnmkijndmemaaRow
namespace Go.Proofs.Ytpjnmkijndmemaa
open Go.RowKit Go.PlainAid
set_option linter.unusedVariables false
set_option linter.unusedSimpArgs false

theorem mem_ifn {i k : Nat} {x : Bool} : (i ∈ (if x = true then ([] : List Nat) else [k])) ↔ (x = false ∧ i = k) := by cases x <;> simp
theorem mem_ifc {i k : Nat} {p : Prop} [Decidable p] : (i ∈ (if p then [k] else ([] : List Nat))) ↔ (p ∧ i = k) := by by_cases h : p <;> simp [h]
/-- what stands while a pump gives what it wants: which of its two loads are done, whether it was asked -/
structure PG (B C : Nat) (w0 : World) (s n d r l b g k W : Int) (x : Bool) (c : Fin 3) (t0 t1 t2 : Value) (w : World) : Prop where
  x : x = true → t0 = .agg #[.int .i64 s, .int .i64 n, .int .i64 d, .int .i64 r, .int .i64 l, .int .i64 b, .int .i64 g, .int .i64 k]
  c1 : 0 < c → t1 = .agg #[.int .i64 s, .int .i64 n, .int .i64 d, .int .i64 r, .int .i64 l, .int .i64 b, .int .i64 g, .int .i64 k]
  c2 : c = 2 → t2 = .int .i64 W
  row : w.heap[B]? = some (.cells #[.int .i64 s, .int .i64 n, .int .i64 d, .int .i64 r, .int .i64 l, .int .i64 b, .int .i64 g, .int .i64 k] 27)
  bel : Below C w0 w
  lt : C ≤ B
theorem PG.on {B C : Nat} {w0 : World} {s n d r l b g k W : Int} {x : Bool} {c : Fin 3} {t0 t1 t2 : Value} {w w' : World} (h : PG B C w0 s n d r l b g k W x c t0 t1 t2 w) (hb : Below w.heap.size w w') : PG B C w0 s n d r l b g k W x c t0 t1 t2 w' :=
  ⟨h.x, h.c1, h.c2, row_on h.row hb, h.bel.trans (hb.mono (Nat.le_of_lt (Nat.lt_of_le_of_lt h.lt (row_lt h.row)))), h.lt⟩
theorem celP {W W' : World} {p : Addr} {v : Value} (h : W.cell? p = some v) (hb : Below W.heap.size W W') : W'.cell? p = some v := (hb.cell (World.block_lt_of_cell? W p h)).trans h
theorem cel_ho {W W' : World} {g i : Nat} {v : Value} (h : W.cell? ⟨g, i, none⟩ = some v) (ho : W'.heap[g]? = W.heap[g]?) : W'.cell? ⟨g, i, none⟩ = some v := by
  unfold World.cell? at h ⊢
  rw [ho]
  exact h
end Go.Proofs.Ytpjnmkijndmemaa
