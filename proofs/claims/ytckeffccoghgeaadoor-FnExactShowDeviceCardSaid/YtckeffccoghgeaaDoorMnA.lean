/-
  Menus: rows of memory, stores.
-/
import Derived.Test.YtckeffccoghgeaaDoorMnM
import Derived.Great.BuildSlice
import Derived.Deep.CutBlock
namespace Go.Proofs.YtckeffccoghgeaaDoor
open Go.RowKit Go.PlainAid
set_option linter.unusedVariables false
set_option linter.unusedSimpArgs false

theorem alM (w : World) (o : Obj) : Below w.heap.size w (w.alloc o) := (Below.refl _ _).alloc (Nat.le_refl _) _
/-- what a store leaves: one row is another, all else is as it was -/
def PutM (w w' : World) (g : Nat) (o : Obj) : Prop := w'.heap[g]? = some o ∧ (∀ k, k ≠ g → w'.heap[k]? = w.heap[k]?) ∧ w'.heap.size = w.heap.size ∧ (∀ B W, B ≤ g → Below B W w → Below B W w')
theorem PutM.far {w w' : World} {g k : Nat} {o p : Obj} (h : PutM w w' g o) (hr : w.heap[k]? = some p) (hne : k ≠ g) : w'.heap[k]? = some p := (h.2.1 k hne).trans hr
theorem box5_cells {w : World} {k : Nat} {t : TypeId} {x0 x1 x2 x3 x4 : Value} (h : w.heap[k]? = some (.cells #[x0, x1, x2, x3, x4] t)) :
    (w.cell? ⟨k, 0, none⟩ = some x0 ∧ w.cell? ⟨k, 1, none⟩ = some x1 ∧ w.cell? ⟨k, 2, none⟩ = some x2 ∧ w.cell? ⟨k, 3, none⟩ = some x3 ∧ w.cell? ⟨k, 4, none⟩ = some x4) ∧ w.frozen? ⟨k, 0, none⟩ = false ∧ w.frozen? ⟨k, 1, none⟩ = false ∧ w.frozen? ⟨k, 2, none⟩ = false ∧ w.frozen? ⟨k, 3, none⟩ = false ∧ w.frozen? ⟨k, 4, none⟩ = false := by
  refine ⟨⟨?_, ?_, ?_, ?_, ?_⟩, ?_, ?_, ?_, ?_, ?_⟩ <;> simp [World.cell?, World.frozen?, h]
theorem putM_row {w : World} {g : Nat} {cs old : Array Value} {T : TypeId} (hg : w.heap[g]? = some (.cells old T)) : PutM w (w.setRow g cs) g (.cells cs T) :=
  ⟨setRow_heap w g _ _ _ _ hg, fun k hk => setRow_other w g k _ hk, setRow_size w g _, fun B W hB hb => ⟨hb.os, hb.tape, hb.output, by rw [setRow_size]; exact hb.size, fun k hk => by rw [setRow_other w g k _ (by omega)]; exact hb.block k hk⟩⟩
theorem putM_set {w : World} {g i : Nat} {v : Value} {cs : Array Value} {T : TypeId} (hg : w.heap[g]? = some (.cells cs T)) : PutM w (w.setCell ⟨g, i, none⟩ v) g (.cells (cs.setIfInBounds i v) T) :=
  ⟨heap_setCell_same w g i _ _ v hg, fun k hk => Below.heap_setCell _ _ _ _ hk, by simp, fun B W hB hb => hb.setCell hB _⟩
/-- a menu stored into a row, as one -/
theorem listStoreM {ops : Array Oper} {rest : List Oper} {o : Oper} {a : Act} {Q : Exit → Act → World → Prop} {w : World} (hgd : o.guard = none) (hd : o.dst = none) (x y : Operand) (ty : TypeId) (ho : o.op = .store ty x y) (hty : ty = 40)
    (g : Nat) (za : Int) (zb : Bool) (zn zd : Int) (zs : ByteArray) (hx : a.eval x = .pointer (some ⟨g, 0, none⟩)) (hy : a.eval y = .agg #[.int .i64 za, .bool zb, .int .i64 zn, .int .i64 zd, .string zs])
    {u0 u1 u2 u3 u4 : Value} (hg : w.heap[g]? = some (.cells #[u0, u1, u2, u3, u4] 40))
    (h : ∀ w' : World, PutM w w' g (.cells #[.int .i64 za, .bool zb, .int .i64 zn, .int .i64 zd, .string zs] 40) → wpList Tryd.prog ops Q rest a w') : wpList Tryd.prog ops Q (o :: rest) a w := by
  subst hty
  refine wpList_store_rowTo hgd _ x y ho hd g _ hx hy _ _ hg (by kernel_rfl) rfl (by kernel_rfl) ?_
  exact h _ (putM_row hg)
/-- an order stored into a row, as one -/
theorem listStoreO {ops : Array Oper} {rest : List Oper} {o : Oper} {a : Act} {Q : Exit → Act → World → Prop} {w : World} (hgd : o.guard = none) (hd : o.dst = none) (x y : Operand) (ty : TypeId) (ho : o.op = .store ty x y) (hty : ty = 139)
    (g : Nat) (zk zn zd zv : Int) (hx : a.eval x = .pointer (some ⟨g, 0, none⟩)) (hy : a.eval y = .agg #[.int .i64 zk, .int .i64 zn, .int .i64 zd, .int .i64 zv])
    {u0 u1 u2 u3 : Value} (hg : w.heap[g]? = some (.cells #[u0, u1, u2, u3] 139))
    (h : ∀ w' : World, PutM w w' g (.cells #[.int .i64 zk, .int .i64 zn, .int .i64 zd, .int .i64 zv] 139) → wpList Tryd.prog ops Q rest a w') : wpList Tryd.prog ops Q (o :: rest) a w := by
  subst hty
  refine wpList_store_rowTo hgd _ x y ho hd g _ hx hy _ _ hg (by kernel_rfl) rfl (by kernel_rfl) ?_
  exact h _ (putM_row hg)
/-- a menu stored into a row in a drawn region -/
theorem storeM_any {ops : Array Oper} {o : Oper} {a : Act} {K : Act → World → Prop} {Q : Exit → Act → World → Prop} {E : Prop} {w : World} (hw : Region.wanted o (yielded ops a.tmps) = true) (hd : o.dst = none) (x y : Operand) (ty : TypeId) (ho : o.op = .store ty x y) (hty : ty = 40)
    (g : Nat) (za : Int) (zb : Bool) (zn zd : Int) (zs : ByteArray) (hx : a.eval x = .pointer (some ⟨g, 0, none⟩)) (hy : a.eval y = .agg #[.int .i64 za, .bool zb, .int .i64 zn, .int .i64 zd, .string zs])
    {u0 u1 u2 u3 u4 : Value} (hg : w.heap[g]? = some (.cells #[u0, u1, u2, u3, u4] 40))
    (h : ∀ w' : World, PutM w w' g (.cells #[.int .i64 za, .bool zb, .int .i64 zn, .int .i64 zd, .string zs] 40) → K a w') : if Region.wanted o (yielded ops a.tmps) = true then Oper.wp Tryd.prog o a w K Q else E := by
  subst hty
  rw [if_pos hw]
  refine wp_store_row _ x y ho g _ hx hy _ _ hg (by kernel_rfl) rfl (by kernel_rfl) ?_
  rw [hd]
  exact h _ (putM_row hg)
theorem storeO_any {ops : Array Oper} {o : Oper} {a : Act} {K : Act → World → Prop} {Q : Exit → Act → World → Prop} {E : Prop} {w : World} (hw : Region.wanted o (yielded ops a.tmps) = true) (hd : o.dst = none) (x y : Operand) (ty : TypeId) (ho : o.op = .store ty x y) (hty : ty = 139)
    (g : Nat) (zk zn zd zv : Int) (hx : a.eval x = .pointer (some ⟨g, 0, none⟩)) (hy : a.eval y = .agg #[.int .i64 zk, .int .i64 zn, .int .i64 zd, .int .i64 zv])
    {u0 u1 u2 u3 : Value} (hg : w.heap[g]? = some (.cells #[u0, u1, u2, u3] 139))
    (h : ∀ w' : World, PutM w w' g (.cells #[.int .i64 zk, .int .i64 zn, .int .i64 zd, .int .i64 zv] 139) → K a w') : if Region.wanted o (yielded ops a.tmps) = true then Oper.wp Tryd.prog o a w K Q else E := by
  subst hty
  rw [if_pos hw]
  refine wp_store_row _ x y ho g _ hx hy _ _ hg (by kernel_rfl) rfl (by kernel_rfl) ?_
  rw [hd]
  exact h _ (putM_row hg)
theorem ky4 {w w' : World} {Y : Nat} {x0 x1 x2 x3 : Value} {T : TypeId} (h : w'.heap[Y]? = some (.cells #[x0, x1, x2, x3] T)) (hb : Below w.heap.size w w') : w'.cell? ⟨Y, 0, none⟩ = some x0 ∧ w'.cell? ⟨Y, 1, none⟩ = some x1 ∧ w'.cell? ⟨Y, 2, none⟩ = some x2 ∧ w'.cell? ⟨Y, 3, none⟩ = some x3 ∧ Below w.heap.size w w' := by
  have k := box4_cells h
  exact ⟨k.1.1, k.1.2.1, k.1.2.2.1, k.1.2.2.2, hb⟩
theorem storeV_run {w : World} {g i : Nat} {z : Int} {cs : Array Value} {T : TypeId} (hg : w.heap[g]? = some (.cells cs T)) (hi : i < cs.size) : (Instr.storeAt 3 (.pointer (some ⟨g, i, none⟩)) (.int .i64 z)).run Tryd.prog w = .ok () (w.setCell ⟨g, i, none⟩ (.int .i64 z)) := by
  have k1 : w.cell? ⟨g, i, none⟩ = some cs[i] := by simp [World.cell?, hg, hi]
  have k2 : w.frozen? ⟨g, i, none⟩ = false := by simp [World.frozen?, hg]
  simp [go_sem, Instr.storeAt, k1, k2]
theorem storeT_run {w : World} {g i : Nat} {s : ByteArray} {cs : Array Value} {T : TypeId} (hg : w.heap[g]? = some (.cells cs T)) (hi : i < cs.size) : (Instr.storeAt 9 (.pointer (some ⟨g, i, none⟩)) (.string s)).run Tryd.prog w = .ok () (w.setCell ⟨g, i, none⟩ (.string s)) := by
  have k1 : w.cell? ⟨g, i, none⟩ = some cs[i] := by simp [World.cell?, hg, hi]
  have k2 : w.frozen? ⟨g, i, none⟩ = false := by simp [World.frozen?, hg]
  simp [go_sem, Instr.storeAt, k1, k2]
/-- one number stored into a row -/
theorem listStoreI {ops : Array Oper} {rest : List Oper} {o : Oper} {a : Act} {Q : Exit → Act → World → Prop} {w : World} (hgd : o.guard = none) (hd : o.dst = none) (x y : Operand) (ty : TypeId) (ho : o.op = .store ty x y) (hty : ty = 3)
    (g i : Nat) (z : Int) (hx : a.eval x = .pointer (some ⟨g, i, none⟩)) (hy : a.eval y = .int .i64 z)
    {cs : Array Value} {T : TypeId} (hg : w.heap[g]? = some (.cells cs T)) (hi : i < cs.size)
    (h : ∀ w' : World, PutM w w' g (.cells (cs.setIfInBounds i (.int .i64 z)) T) → wpList Tryd.prog ops Q rest a w') : wpList Tryd.prog ops Q (o :: rest) a w := by
  subst hty
  refine wpList_plain hgd fun _ hK => ?_
  unfold Oper.wp
  simp only [execOp, ho, hx, hy, Sem.run_bind, storeV_run hg hi, Result.andThen, Sem.run_pure]
  exact hK _ _ (by rw [hd]; exact h _ (putM_set hg))
/-- a text stored into a row -/
theorem listStoreT {ops : Array Oper} {rest : List Oper} {o : Oper} {a : Act} {Q : Exit → Act → World → Prop} {w : World} (hgd : o.guard = none) (hd : o.dst = none) (x y : Operand) (ty : TypeId) (ho : o.op = .store ty x y) (hty : ty = 9)
    (g i : Nat) (z : ByteArray) (hx : a.eval x = .pointer (some ⟨g, i, none⟩)) (hy : a.eval y = .string z)
    {cs : Array Value} {T : TypeId} (hg : w.heap[g]? = some (.cells cs T)) (hi : i < cs.size)
    (h : ∀ w' : World, PutM w w' g (.cells (cs.setIfInBounds i (.string z)) T) → wpList Tryd.prog ops Q rest a w') : wpList Tryd.prog ops Q (o :: rest) a w := by
  subst hty
  refine wpList_plain hgd fun _ hK => ?_
  unfold Oper.wp
  simp only [execOp, ho, hx, hy, Sem.run_bind, storeT_run hg hi, Result.andThen, Sem.run_pure]
  exact hK _ _ (by rw [hd]; exact h _ (putM_set hg))
def mnV (m : Mn) : Value := .agg #[.int .i64 m.a, .bool m.b, .int .i64 m.n, .int .i64 m.d, .string ⟨m.s.toArray⟩]
theorem box3m (w : World) (o p q : Obj) :
    (((w.alloc o).alloc p).alloc q).heap[w.heap.size]? = some o ∧ (((w.alloc o).alloc p).alloc q).heap[w.heap.size + 1]? = some p ∧ (((w.alloc o).alloc p).alloc q).heap[w.heap.size + 2]? = some q ∧ Below w.heap.size w (((w.alloc o).alloc p).alloc q) ∧ (((w.alloc o).alloc p).alloc q).heap.size = w.heap.size + 3 := by
  have h0 := heap_new w o
  have h1 := heap_new (w.alloc o) p
  have h2 := heap_new ((w.alloc o).alloc p) q
  refine ⟨row_on (row_on h0 (alM _ _)) (alM _ _), row_on (by simpa using h1) (alM _ _), by simpa using h2, bel_on (Nat.le_refl _) (bel_on (Nat.le_refl _) (alM _ _) (alM _ _)) (alM _ _), by simp⟩
theorem txt_size {s : List UInt8} {S : ByteArray} (h : (⟨s.toArray⟩ : ByteArray) = S) : S.size = s.length := by subst h; rfl
theorem txt_bt {s : List UInt8} {S : ByteArray} (h : (⟨s.toArray⟩ : ByteArray) = S) (k : Nat) (hk : k < s.length) : bt S k = (s[k].toNat : Int) := by
  subst h
  rw [← get_bt (⟨s.toArray⟩ : ByteArray) k hk]
  rfl
theorem txt_one (s : List UInt8) (x : UInt8) : (⟨s.toArray⟩ : ByteArray) ++ ⟨#[x]⟩ = ⟨(s ++ [x]).toArray⟩ := by
  apply ByteArray.ext
  simp [ByteArray.data_append]
theorem txt_nil {s : List UInt8} {S : ByteArray} (h : (⟨s.toArray⟩ : ByteArray) = S) : (S.toList = []) ↔ s = [] := by
  subst h
  rw [ByteArray.toList_eq]
end Go.Proofs.YtckeffccoghgeaaDoor
