/-
  What stands in a drawn region 'x, ok := Take(toPump(p), toOrder(o))'.
-/
import Derived.Test.YtpjnmkijndmemaaOpenPm
import Derived.Test.YtpjnmkijndmemaaOpenO
import Derived.Test.YtpjnmkijndmemaaPmL
namespace Go.Proofs.Ytpjnmkijndmemaa
open Go.RowKit Go.PlainAid
set_option linter.unusedVariables false

structure PT (H C : Nat) (w0 : World) (P O T : Value) (x : Bool) (c : Fin 4) (t0 t1 t2 t3 : Value) (w : World) : Prop where
  c1 : 0 < c → t0 = P
  c2 : 1 < c → t1 = O
  c3 : 2 < c → t2 = T
  x : x = true → ∃ b, t3 = .pointer (some ⟨b, 0, none⟩) ∧ w.heap[b]? = some (.cells #[.int .i64 0, .int .i64 0, .int .i64 0, .int .i64 0, .int .i64 0, .int .i64 0, .int .i64 0, .int .i64 0] 27) ∧ H ≤ b
  bel : Below C w0 w
  le : C ≤ H
  sz : H ≤ w.heap.size
theorem PT.on {H C : Nat} {w0 : World} {P O T : Value} {x : Bool} {c : Fin 4} {t0 t1 t2 t3 : Value} {w w' : World} (h : PT H C w0 P O T x c t0 t1 t2 t3 w) (hb : Below w.heap.size w w') : PT H C w0 P O T x c t0 t1 t2 t3 w' :=
  ⟨h.c1, h.c2, h.c3, fun e => by obtain ⟨b, e1, e2, e3⟩ := h.x e; exact ⟨b, e1, row_on e2 hb, e3⟩, h.bel.trans (hb.mono (Nat.le_trans h.le h.sz)), h.le, Nat.le_trans h.sz hb.size⟩
theorem PT.new {H C : Nat} {w0 : World} {P O T : Value} {c : Fin 4} {t0 t1 t2 t3 : Value} {w : World} (h : PT H C w0 P O T false c t0 t1 t2 t3 w) : PT H C w0 P O T true c t0 t1 t2 (.pointer (some ⟨w.heap.size, 0, none⟩)) (w.alloc (.cells #[.int .i64 0, .int .i64 0, .int .i64 0, .int .i64 0, .int .i64 0, .int .i64 0, .int .i64 0, .int .i64 0] 27)) :=
  ⟨h.c1, h.c2, h.c3, fun _ => ⟨_, rfl, heap_new w _, h.sz⟩, h.bel.trans ((alP w _).mono (Nat.le_trans h.le h.sz)), h.le, Nat.le_trans h.sz (alP w _).size⟩
end Go.Proofs.Ytpjnmkijndmemaa
