/-
  Lists of orders, marked and asked.
-/
import Derived.Test.YtckeffccoghgeaaDoorOrl
namespace Go.Proofs.YtckeffccoghgeaaDoor
open Go.ChangeShapes Go.WideShapes Go.ChangeAt Go.RowKit Go.PlainAid
set_option linter.unusedVariables false

theorem grown_setc {w W : World} {g i : Nat} (h : w.grownBy W (some g)) (u : Value) : w.grownBy (W.setCell ⟨g, i, none⟩ u) (some g) := by
  have hs : (W.setCell ⟨g, i, none⟩ u).heap.size = W.heap.size := by simp
  exact ⟨h.os, h.tape, h.output, by rw [hs]; exact h.size, fun m hm hne => (Below.heap_setCell _ _ _ _ (show m ≠ g from fun e => hne (by rw [e]))).trans (h.block m hm hne)⟩
theorem storeN_run {w : World} (g i : Nat) (z : Int) {v : Value} (hc : w.cell? ⟨g, i, none⟩ = some v) (hf : w.frozen? ⟨g, i, none⟩ = false) :
    (Instr.storeAt 3 (.pointer (some ⟨g, i, none⟩)) (.int .i64 z)).run Tryd.prog w = .ok () (w.setCell ⟨g, i, none⟩ (.int .i64 z)) := by
  simp [go_sem, Instr.storeAt, hc, hf]
/-- a number stored into a cell: the world behind it as a letter -/
theorem listStoreCo {ops : Array Oper} {rest : List Oper} {o : Oper} {a : Act} {Q : Exit → Act → World → Prop} {w : World} (hgd : o.guard = none) (hd : o.dst = none) (x y : Operand) (ty : TypeId) (ho : o.op = .store ty x y) (hty : ty = 3)
    (g i : Nat) (z : Int) (hx : a.eval x = .pointer (some ⟨g, i, none⟩)) (hy : a.eval y = .int .i64 z) (hc : ∃ v, w.cell? ⟨g, i, none⟩ = some v) (hf : w.frozen? ⟨g, i, none⟩ = false)
    (h : ∀ w', w' = w.setCell ⟨g, i, none⟩ (.int .i64 z) → wpList Tryd.prog ops Q rest a w') : wpList Tryd.prog ops Q (o :: rest) a w := by
  obtain ⟨v, hc⟩ := hc
  subst hty
  refine wpList_plain hgd fun _ hK => ?_
  unfold Oper.wp
  simp [execOp, ho, hx, hy, storeN_run g i z hc hf, Result.andThen]
  exact hK _ _ (by rw [hd]; exact h _ rfl)
/-- a list that is being written -/
structure MkS (w W : World) (B : Nat) (T : TypeId) (K g n cap : Nat) (xs : List Value) : Prop where
  o : W.ownsRow B T K (.slice (some ⟨g, 0, none⟩) n cap) n xs
  b : Below B w W
  g : w.grownBy W (some g)
theorem listStoreK {ops : Array Oper} {rest : List Oper} {o : Oper} {a : Act} {Q : Exit → Act → World → Prop} {w w0 : World} {B : Nat} {T : TypeId} {K n cap : Nat} {xs : List Value} (hgd : o.guard = none) (hd : o.dst = none) (x y : Operand) (ty : TypeId) (ho : o.op = .store ty x y) (hty : ty = 3)
    (g i : Nat) (z : Int) (hx : a.eval x = .pointer (some ⟨g, i, none⟩)) (hy : a.eval y = .int .i64 z) (hs : MkS w0 w B T K g n cap xs) (hi : i < n * K)
    (h : ∀ w', MkS w0 w' B T K g n cap (xs.set i (.int .i64 z)) → wpList Tryd.prog ops Q rest a w') : wpList Tryd.prog ops Q (o :: rest) a w := by
  have hB : B ≤ g := own_ge hs.o g rfl
  have hc := hs.o.cellAt i hi
  rw [List.getElem?_eq_getElem (by rw [hs.o.1]; exact hi)] at hc
  refine listStoreCo hgd hd x y ty ho hty g i z hx hy ⟨_, hc⟩ (hs.o.frozenAt i) ?_
  rintro w' rfl
  exact h _ ⟨(hs.o.stored i _).1, hs.b.setCell hB _, grown_setc hs.g _⟩
/-- n marks from k on, 4 each -/
def mqM (k : Nat) : Nat → List (Int × Int × Int × Int)
  | 0 => []
  | n + 1 => ((k : Int), (k : Int) + 1, (k : Int) + 2, (k : Int) + 3) :: mqM (k + 4) n
theorem mqM_len : ∀ (n k : Nat), (mqM k n).length = n
  | 0, _ => rfl
  | n + 1, k => by simp [mqM, mqM_len n]
theorem mqM_snoc : ∀ (j k : Nat), mqM k (j + 1) = mqM k j ++ [(((k : Int) + 4 * (j : Int)), ((k : Int) + 4 * (j : Int)) + 1, ((k : Int) + 4 * (j : Int)) + 2, ((k : Int) + 4 * (j : Int)) + 3)]
  | 0, k => by simp [mqM]
  | j + 1, k => by
    rw [mqM, mqM_snoc j (k + 4), mqM, List.cons_append, show ((k + 4 : Nat) : Int) + 4 * (j : Int) = (k : Int) + 4 * ((j + 1 : Nat) : Int) by omega]
theorem mqM_at : ∀ (n k j : Nat) (h : j < (mqM k n).length), (mqM k n)[j] = (((k : Int) + 4 * (j : Int)), ((k : Int) + 4 * (j : Int)) + 1, ((k : Int) + 4 * (j : Int)) + 2, ((k : Int) + 4 * (j : Int)) + 3)
  | 0, k, j, h => by simp [mqM] at h
  | n + 1, k, 0, h => by simp [mqM]
  | n + 1, k, j + 1, h => by
    have h' : j < (mqM (k + 4) n).length := by simpa [mqM] using h
    have := mqM_at n (k + 4) j h'
    simp only [mqM, List.getElem_cons_succ]
    rw [this, show ((k + 4 : Nat) : Int) + 4 * (j : Int) = (k : Int) + 4 * ((j + 1 : Nat) : Int) by omega]
def mqX (l : List (Int × Int × Int × Int)) (k j : Nat) : List (Int × Int × Int × Int) := mqM k j ++ l.drop j
theorem mqX_len {l : List (Int × Int × Int × Int)} {k j : Nat} (h : j ≤ l.length) : (mqX l k j).length = l.length := by
  unfold mqX; rw [List.length_append, mqM_len, List.length_drop]; omega
theorem mqX_set {l : List (Int × Int × Int × Int)} {k j : Nat} (h : j < l.length) : (mqX l k j).set j (((k : Int) + 4 * (j : Int)), ((k : Int) + 4 * (j : Int)) + 1, ((k : Int) + 4 * (j : Int)) + 2, ((k : Int) + 4 * (j : Int)) + 3) = mqX l k (j + 1) := by
  unfold mqX
  rw [List.set_append_right _ _ (by rw [mqM_len]; omega), mqM_len, Nat.sub_self, List.drop_eq_getElem_cons h, List.set_cons_zero, mqM_snoc]
  simp
theorem mqX_all (l : List (Int × Int × Int × Int)) (k : Nat) : mqX l k l.length = mqM k l.length := by unfold mqX; simp

end Go.Proofs.YtckeffccoghgeaaDoor
