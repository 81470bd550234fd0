/-
  Take of the specification.
-/
import Derived.Test.YtckeffccoghgeaaDoorSpPoks
import Derived.Great.BuildSlice
import Derived.Deep.CutBlock
namespace Go.Proofs.YtckeffccoghgeaaDoor
open Go.RowKit Go.PlainAid
set_option linter.unusedVariables false
set_option linter.unusedSimpArgs false

theorem al_at (w : World) (o : Obj) {k : Nat} (h : w.heap.size = k) : (w.alloc o).heap[k]? = some o := by subst h; exact heap_new w o
theorem set_rowP {w : World} {k : Nat} {T : TypeId} {a : Array Value} (h : w.heap[k]? = some (.cells a T)) (i : Nat) (x : Value) : (w.setCell ⟨k, i, none⟩ x).heap[k]? = some (.cells (a.setIfInBounds i x) T) := heap_setCell_same w k i _ _ x h
theorem set_farP {w : World} {k g i : Nat} {o : Obj} {x : Value} (h : w.heap[g]? = some o) (hne : g ≠ k) : (w.setCell ⟨k, i, none⟩ x).heap[g]? = some o := (Below.heap_setCell _ _ _ _ hne).trans h
theorem le2 (n : Nat) : n ≤ n + 1 + 1 := by omega
/-- eight numbers stored into a pump's row, as one -/
theorem listStoreP {ops : Array Oper} {rest : List Oper} {o : Oper} {a : Act} {Q : Exit → Act → World → Prop} {w : World} (hgd : o.guard = none) (hd : o.dst = none) (x y : Operand) (ty : TypeId) (ho : o.op = .store ty x y) (hty : ty = 38)
    (g : Nat) (z0 z1 z2 z3 z4 z5 z6 z7 : Int) (hx : a.eval x = .pointer (some ⟨g, 0, none⟩)) (hy : a.eval y = PV z0 z1 z2 z3 z4 z5 z6 z7)
    {u0 u1 u2 u3 u4 u5 u6 u7 : Value} (hg : w.heap[g]? = some (.cells #[u0, u1, u2, u3, u4, u5, u6, u7] 38))
    (h : ∀ w' : World, w'.heap[g]? = some (PB z0 z1 z2 z3 z4 z5 z6 z7) → (∀ k, k ≠ g → w'.heap[k]? = w.heap[k]?) → w'.heap.size = w.heap.size → (∀ B W, B ≤ g → Below B W w → Below B W w') → wpList Tryd.prog ops Q rest a w') : wpList Tryd.prog ops Q (o :: rest) a w := by
  subst hty
  refine wpList_store_rowTo hgd _ x y ho hd g _ hx hy _ _ hg (by kernel_rfl) rfl (by kernel_rfl) ?_
  refine h _ (setRow_heap w g _ _ _ _ hg) (fun k hk => setRow_other w g k _ hk) (setRow_size w g _) (fun B W hB hb => ?_)
  exact ⟨hb.os, hb.tape, hb.output, by rw [setRow_size]; exact hb.size, fun k hk => by rw [setRow_other w g k _ (by omega)]; exact hb.block k hk⟩
theorem storeC_run {w : World} {g i : Nat} {z : Int} {cs : Array Value} {T : TypeId} (hg : w.heap[g]? = some (.cells cs T)) (hi : i < cs.size) : (Instr.storeAt 3 (.pointer (some ⟨g, i, none⟩)) (.int .i64 z)).run Tryd.prog w = .ok () (w.setCell ⟨g, i, none⟩ (.int .i64 z)) := by
  have k1 : w.cell? ⟨g, i, none⟩ = some cs[i] := by simp [World.cell?, hg, hi]
  have k2 : w.frozen? ⟨g, i, none⟩ = false := by simp [World.frozen?, hg]
  simp [go_sem, Instr.storeAt, k1, k2]
theorem storeR_run {w : World} {g : Nat} {z0 z1 z2 : Int} {u0 u1 u2 u3 u4 u5 u6 u7 : Value} {T : TypeId} (hg : w.heap[g]? = some (.cells #[u0, u1, u2, u3, u4, u5, u6, u7] T)) :
    (Instr.storeAt 36 (.pointer (some ⟨g, 1, none⟩)) (.agg #[.int .i64 z0, .int .i64 z1, .int .i64 z2])).run Tryd.prog w = .ok () (((w.setCell ⟨g, 1, none⟩ (.int .i64 z0)).setCell ⟨g, 2, none⟩ (.int .i64 z1)).setCell ⟨g, 3, none⟩ (.int .i64 z2)) := by
  have k := box8_cells hg
  simp [go_sem, Instr.storeAt, k]
theorem bel_put {w W : World} {B g i : Nat} {v : Value} (h : Below B W w) (hB : B ≤ g) : Below B W (w.setCell ⟨g, i, none⟩ v) := h.setCell hB _
/-- one number stored into a row -/
theorem listStoreC {ops : Array Oper} {rest : List Oper} {o : Oper} {a : Act} {Q : Exit → Act → World → Prop} {w : World} (hgd : o.guard = none) (hd : o.dst = none) (x y : Operand) (ty : TypeId) (ho : o.op = .store ty x y) (hty : ty = 3)
    (g i : Nat) (z : Int) (hx : a.eval x = .pointer (some ⟨g, i, none⟩)) (hy : a.eval y = .int .i64 z)
    {cs : Array Value} {T : TypeId} (hg : w.heap[g]? = some (.cells cs T)) (hi : i < cs.size)
    (h : ∀ w' : World, w'.heap[g]? = some (.cells (cs.setIfInBounds i (.int .i64 z)) T) → (∀ k, k ≠ g → w'.heap[k]? = w.heap[k]?) → w'.heap.size = w.heap.size → (∀ B W, B ≤ g → Below B W w → Below B W w') → wpList Tryd.prog ops Q rest a w') : wpList Tryd.prog ops Q (o :: rest) a w := by
  subst hty
  refine wpList_plain hgd fun _ hK => ?_
  unfold Oper.wp
  simp only [execOp, ho, hx, hy, Sem.run_bind, storeC_run hg hi, Result.andThen, Sem.run_pure]
  exact hK _ _ (by rw [hd]; exact h _ (set_rowP hg i _) (fun k hk => Below.heap_setCell _ _ _ _ hk) (by simp) (fun B W hB hb => hb.setCell hB _))
/-- a rate stored into a pump's row -/
theorem listStoreR {ops : Array Oper} {rest : List Oper} {o : Oper} {a : Act} {Q : Exit → Act → World → Prop} {w : World} (hgd : o.guard = none) (hd : o.dst = none) (x y : Operand) (ty : TypeId) (ho : o.op = .store ty x y) (hty : ty = 36)
    (g : Nat) (z0 z1 z2 : Int) (hx : a.eval x = .pointer (some ⟨g, 1, none⟩)) (hy : a.eval y = .agg #[.int .i64 z0, .int .i64 z1, .int .i64 z2])
    {u0 u1 u2 u3 u4 u5 u6 u7 : Value} {T : TypeId} (hg : w.heap[g]? = some (.cells #[u0, u1, u2, u3, u4, u5, u6, u7] T))
    (h : ∀ w' : World, w'.heap[g]? = some (.cells #[u0, .int .i64 z0, .int .i64 z1, .int .i64 z2, u4, u5, u6, u7] T) → (∀ k, k ≠ g → w'.heap[k]? = w.heap[k]?) → w'.heap.size = w.heap.size → (∀ B W, B ≤ g → Below B W w → Below B W w') → wpList Tryd.prog ops Q rest a w') : wpList Tryd.prog ops Q (o :: rest) a w := by
  subst hty
  refine wpList_plain hgd fun _ hK => ?_
  unfold Oper.wp
  simp only [execOp, ho, hx, hy, Sem.run_bind, storeR_run hg, Result.andThen, Sem.run_pure]
  exact hK _ _ (by rw [hd]; exact h _ (set_rowP (set_rowP (set_rowP hg 1 _) 2 _) 3 _) (fun k hk => (Below.heap_setCell _ _ _ _ hk).trans ((Below.heap_setCell _ _ _ _ hk).trans (Below.heap_setCell _ _ _ _ hk))) (by simp) (fun B W hB hb => ((hb.setCell hB _).setCell hB _).setCell hB _))
end Go.Proofs.YtckeffccoghgeaaDoor
