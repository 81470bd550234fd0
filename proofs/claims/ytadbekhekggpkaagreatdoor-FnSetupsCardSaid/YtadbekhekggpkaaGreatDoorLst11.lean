/-
  The lists of a set-up: how much they hold, as they came in, marked and asked.
-/
import Derived.Test.YtadbekhekggpkaaGreatDoorPrt
import Derived.Test.YtadbekhekggpkaaGreatDoorRu10
import Derived.Test.YtadbekhekggpkaaGreatDoorRegB
namespace Go.Proofs.YtadbekhekggpkaaGreatDoor
open Go.ChangeShapes Go.WideShapes Go.ChangeAt Go.RowKit Go.PlainAid
set_option linter.unusedVariables false

theorem grown_setc {w W : World} {g i : Nat} (h : w.grownBy W (some g)) (u : Value) : w.grownBy (W.setCell ⟨g, i, none⟩ u) (some g) := by
  have hs : (W.setCell ⟨g, i, none⟩ u).heap.size = W.heap.size := by simp
  exact ⟨h.os, h.tape, h.output, by rw [hs]; exact h.size, fun m hm hne => (Below.heap_setCell _ _ _ _ (show m ≠ g from fun e => hne (by rw [e]))).trans (h.block m hm hne)⟩
theorem storeC_run {w : World} (g i : Nat) (z : Int) {v : Value} (hc : w.cell? ⟨g, i, none⟩ = some v) (hf : w.frozen? ⟨g, i, none⟩ = false) :
    (Instr.storeAt 3 (.pointer (some ⟨g, i, none⟩)) (.int .i64 z)).run Tryz.prog w = .ok () (w.setCell ⟨g, i, none⟩ (.int .i64 z)) := by
  simp [go_sem, Instr.storeAt, hc, hf]
/-- a number stored into a cell: the world behind it as a letter -/
theorem listStoreC {ops : Array Oper} {rest : List Oper} {o : Oper} {a : Act} {Q : Exit → Act → World → Prop} {w : World} (hgd : o.guard = none) (hd : o.dst = none) (x y : Operand) (ty : TypeId) (ho : o.op = .store ty x y) (hty : ty = 3)
    (g i : Nat) (z : Int) (hx : a.eval x = .pointer (some ⟨g, i, none⟩)) (hy : a.eval y = .int .i64 z) (hc : ∃ v, w.cell? ⟨g, i, none⟩ = some v) (hf : w.frozen? ⟨g, i, none⟩ = false)
    (h : ∀ w', w' = w.setCell ⟨g, i, none⟩ (.int .i64 z) → wpList Tryz.prog ops Q rest a w') : wpList Tryz.prog ops Q (o :: rest) a w := by
  obtain ⟨v, hc⟩ := hc
  subst hty
  refine wpList_plain hgd fun _ hK => ?_
  unfold Oper.wp
  simp [execOp, ho, hx, hy, storeC_run g i z hc hf, Result.andThen]
  exact hK _ _ (by rw [hd]; exact h _ rfl)
/-- a list that is being written -/
structure MkS (w W : World) (B : Nat) (T : TypeId) (K g n cap : Nat) (xs : List Value) : Prop where
  o : W.ownsRow B T K (.slice (some ⟨g, 0, none⟩) n cap) n xs
  b : Below B w W
  g : w.grownBy W (some g)
theorem listStoreM {ops : Array Oper} {rest : List Oper} {o : Oper} {a : Act} {Q : Exit → Act → World → Prop} {w w0 : World} {B : Nat} {T : TypeId} {K n cap : Nat} {xs : List Value} (hgd : o.guard = none) (hd : o.dst = none) (x y : Operand) (ty : TypeId) (ho : o.op = .store ty x y) (hty : ty = 3)
    (g i : Nat) (z : Int) (hx : a.eval x = .pointer (some ⟨g, i, none⟩)) (hy : a.eval y = .int .i64 z) (hs : MkS w0 w B T K g n cap xs) (hi : i < n * K)
    (h : ∀ w', MkS w0 w' B T K g n cap (xs.set i (.int .i64 z)) → wpList Tryz.prog ops Q rest a w') : wpList Tryz.prog ops Q (o :: rest) a w := by
  have hB : B ≤ g := own_ge hs.o g rfl
  have hc := hs.o.cellAt i hi
  rw [List.getElem?_eq_getElem (by rw [hs.o.1]; exact hi)] at hc
  refine listStoreC hgd hd x y ty ho hty g i z hx hy ⟨_, hc⟩ (hs.o.frozenAt i) ?_
  rintro w' rfl
  exact h _ ⟨(hs.o.stored i _).1, hs.b.setCell hB _, grown_setc hs.g _⟩
def OwnRn (w : World) (B : Nat) (v : Value) (n : Nat) (l : List (Int × Int)) : Prop := w.ownsRow B 48 2 v n (R.regsV l)
def OwnWn (w : World) (B : Nat) (v : Value) (n : Nat) (l : List (Int × Int)) : Prop := w.ownsRow B 50 2 v n (regsV l)
end Go.Proofs.YtadbekhekggpkaaGreatDoor
