/-
  Menus: rows of memory, stores.
-/
import Derived.Test.YtdifmjcghaoilaaGreatDoorGlAB
import Derived.Great.BuildSlice
import Derived.Deep.CutBlock
namespace Go.Proofs.YtdifmjcghaoilaaGreatDoor
open Go.RowKit Go.PlainAid
set_option linter.unusedVariables false
set_option linter.unusedSimpArgs false

theorem alM (w : World) (o : Obj) : Below w.heap.size w (w.alloc o) := (Below.refl _ _).alloc (Nat.le_refl _) _
/-- what a store leaves: one row is another, all else is as it was -/
def PutM (w w' : World) (g : Nat) (o : Obj) : Prop := w'.heap[g]? = some o ∧ (∀ k, k ≠ g → w'.heap[k]? = w.heap[k]?) ∧ w'.heap.size = w.heap.size ∧ (∀ B W, B ≤ g → Below B W w → Below B W w')
theorem PutM.far {w w' : World} {g k : Nat} {o p : Obj} (h : PutM w w' g o) (hr : w.heap[k]? = some p) (hne : k ≠ g) : w'.heap[k]? = some p := (h.2.1 k hne).trans hr
theorem box5_cells {w : World} {k : Nat} {t : TypeId} {x0 x1 x2 x3 x4 : Value} (h : w.heap[k]? = some (.cells #[x0, x1, x2, x3, x4] t)) :
    (w.cell? ⟨k, 0, none⟩ = some x0 ∧ w.cell? ⟨k, 1, none⟩ = some x1 ∧ w.cell? ⟨k, 2, none⟩ = some x2 ∧ w.cell? ⟨k, 3, none⟩ = some x3 ∧ w.cell? ⟨k, 4, none⟩ = some x4) ∧ w.frozen? ⟨k, 0, none⟩ = false ∧ w.frozen? ⟨k, 1, none⟩ = false ∧ w.frozen? ⟨k, 2, none⟩ = false ∧ w.frozen? ⟨k, 3, none⟩ = false ∧ w.frozen? ⟨k, 4, none⟩ = false := by
  refine ⟨⟨?_, ?_, ?_, ?_, ?_⟩, ?_, ?_, ?_, ?_, ?_⟩ <;> simp [World.cell?, World.frozen?, h]
theorem putM_row {w : World} {g : Nat} {cs old : Array Value} {T : TypeId} (hg : w.heap[g]? = some (.cells old T)) : PutM w (w.setRow g cs) g (.cells cs T) :=
  ⟨setRow_heap w g _ _ _ _ hg, fun k hk => setRow_other w g k _ hk, setRow_size w g _, fun B W hB hb => ⟨hb.os, hb.tape, hb.output, by rw [setRow_size]; exact hb.size, fun k hk => by rw [setRow_other w g k _ (by omega)]; exact hb.block k hk⟩⟩
theorem putM_set {w : World} {g i : Nat} {v : Value} {cs : Array Value} {T : TypeId} (hg : w.heap[g]? = some (.cells cs T)) : PutM w (w.setCell ⟨g, i, none⟩ v) g (.cells (cs.setIfInBounds i v) T) :=
  ⟨heap_setCell_same w g i _ _ v hg, fun k hk => Below.heap_setCell _ _ _ _ hk, by simp, fun B W hB hb => hb.setCell hB _⟩
/-- a menu stored into a row, as one -/
theorem listStoreM {ops : Array Oper} {rest : List Oper} {o : Oper} {a : Act} {Q : Exit → Act → World → Prop} {w : World} (hgd : o.guard = none) (hd : o.dst = none) (x y : Operand) (ty : TypeId) (ho : o.op = .store ty x y) (hty : ty = 32)
    (g : Nat) (za : Int) (zb : Bool) (zn zd : Int) (zs : ByteArray) (hx : a.eval x = .pointer (some ⟨g, 0, none⟩)) (hy : a.eval y = .agg #[.int .i64 za, .bool zb, .int .i64 zn, .int .i64 zd, .string zs])
    {u0 u1 u2 u3 u4 : Value} (hg : w.heap[g]? = some (.cells #[u0, u1, u2, u3, u4] 32))
    (h : ∀ w' : World, PutM w w' g (.cells #[.int .i64 za, .bool zb, .int .i64 zn, .int .i64 zd, .string zs] 32) → wpList Tryz.prog ops Q rest a w') : wpList Tryz.prog ops Q (o :: rest) a w := by
  subst hty
  refine wpList_store_rowTo hgd _ x y ho hd g _ hx hy _ _ hg (by kernel_rfl) rfl (by kernel_rfl) ?_
  exact h _ (putM_row hg)
/-- an order stored into a row, as one -/
theorem listStoreO {ops : Array Oper} {rest : List Oper} {o : Oper} {a : Act} {Q : Exit → Act → World → Prop} {w : World} (hgd : o.guard = none) (hd : o.dst = none) (x y : Operand) (ty : TypeId) (ho : o.op = .store ty x y) (hty : ty = 82)
    (g : Nat) (zk zn zd zv : Int) (hx : a.eval x = .pointer (some ⟨g, 0, none⟩)) (hy : a.eval y = .agg #[.int .i64 zk, .int .i64 zn, .int .i64 zd, .int .i64 zv])
    {u0 u1 u2 u3 : Value} (hg : w.heap[g]? = some (.cells #[u0, u1, u2, u3] 82))
    (h : ∀ w' : World, PutM w w' g (.cells #[.int .i64 zk, .int .i64 zn, .int .i64 zd, .int .i64 zv] 82) → wpList Tryz.prog ops Q rest a w') : wpList Tryz.prog ops Q (o :: rest) a w := by
  subst hty
  refine wpList_store_rowTo hgd _ x y ho hd g _ hx hy _ _ hg (by kernel_rfl) rfl (by kernel_rfl) ?_
  exact h _ (putM_row hg)
/-- a menu stored into a row in a drawn region -/
theorem storeM_any {ops : Array Oper} {o : Oper} {a : Act} {K : Act → World → Prop} {Q : Exit → Act → World → Prop} {E : Prop} {w : World} (hw : Region.wanted o (yielded ops a.tmps) = true) (hd : o.dst = none) (x y : Operand) (ty : TypeId) (ho : o.op = .store ty x y) (hty : ty = 32)
    (g : Nat) (za : Int) (zb : Bool) (zn zd : Int) (zs : ByteArray) (hx : a.eval x = .pointer (some ⟨g, 0, none⟩)) (hy : a.eval y = .agg #[.int .i64 za, .bool zb, .int .i64 zn, .int .i64 zd, .string zs])
    {u0 u1 u2 u3 u4 : Value} (hg : w.heap[g]? = some (.cells #[u0, u1, u2, u3, u4] 32))
    (h : ∀ w' : World, PutM w w' g (.cells #[.int .i64 za, .bool zb, .int .i64 zn, .int .i64 zd, .string zs] 32) → K a w') : if Region.wanted o (yielded ops a.tmps) = true then Oper.wp Tryz.prog o a w K Q else E := by
  subst hty
  rw [if_pos hw]
  refine wp_store_row _ x y ho g _ hx hy _ _ hg (by kernel_rfl) rfl (by kernel_rfl) ?_
  rw [hd]
  exact h _ (putM_row hg)
theorem storeO_any {ops : Array Oper} {o : Oper} {a : Act} {K : Act → World → Prop} {Q : Exit → Act → World → Prop} {E : Prop} {w : World} (hw : Region.wanted o (yielded ops a.tmps) = true) (hd : o.dst = none) (x y : Operand) (ty : TypeId) (ho : o.op = .store ty x y) (hty : ty = 82)
    (g : Nat) (zk zn zd zv : Int) (hx : a.eval x = .pointer (some ⟨g, 0, none⟩)) (hy : a.eval y = .agg #[.int .i64 zk, .int .i64 zn, .int .i64 zd, .int .i64 zv])
    {u0 u1 u2 u3 : Value} (hg : w.heap[g]? = some (.cells #[u0, u1, u2, u3] 82))
    (h : ∀ w' : World, PutM w w' g (.cells #[.int .i64 zk, .int .i64 zn, .int .i64 zd, .int .i64 zv] 82) → K a w') : if Region.wanted o (yielded ops a.tmps) = true then Oper.wp Tryz.prog o a w K Q else E := by
  subst hty
  rw [if_pos hw]
  refine wp_store_row _ x y ho g _ hx hy _ _ hg (by kernel_rfl) rfl (by kernel_rfl) ?_
  rw [hd]
  exact h _ (putM_row hg)
theorem ky4 {w w' : World} {Y : Nat} {x0 x1 x2 x3 : Value} {T : TypeId} (h : w'.heap[Y]? = some (.cells #[x0, x1, x2, x3] T)) (hb : Below w.heap.size w w') : w'.cell? ⟨Y, 0, none⟩ = some x0 ∧ w'.cell? ⟨Y, 1, none⟩ = some x1 ∧ w'.cell? ⟨Y, 2, none⟩ = some x2 ∧ w'.cell? ⟨Y, 3, none⟩ = some x3 ∧ Below w.heap.size w w' := by
  have k := box4_cells h
  exact ⟨k.1.1, k.1.2.1, k.1.2.2.1, k.1.2.2.2, hb⟩
theorem storeV_run {w : World} {g i : Nat} {z : Int} {cs : Array Value} {T : TypeId} (hg : w.heap[g]? = some (.cells cs T)) (hi : i < cs.size) : (Instr.storeAt 3 (.pointer (some ⟨g, i, none⟩)) (.int .i64 z)).run Tryz.prog w = .ok () (w.setCell ⟨g, i, none⟩ (.int .i64 z)) := by
  have k1 : w.cell? ⟨g, i, none⟩ = some cs[i] := by simp [World.cell?, hg, hi]
  have k2 : w.frozen? ⟨g, i, none⟩ = false := by simp [World.frozen?, hg]
  simp [go_sem, Instr.storeAt, k1, k2]
theorem storeT_run {w : World} {g i : Nat} {s : ByteArray} {cs : Array Value} {T : TypeId} (hg : w.heap[g]? = some (.cells cs T)) (hi : i < cs.size) : (Instr.storeAt 9 (.pointer (some ⟨g, i, none⟩)) (.string s)).run Tryz.prog w = .ok () (w.setCell ⟨g, i, none⟩ (.string s)) := by
  have k1 : w.cell? ⟨g, i, none⟩ = some cs[i] := by simp [World.cell?, hg, hi]
  have k2 : w.frozen? ⟨g, i, none⟩ = false := by simp [World.frozen?, hg]
  simp [go_sem, Instr.storeAt, k1, k2]
/-- one number stored into a row -/
theorem listStoreI {ops : Array Oper} {rest : List Oper} {o : Oper} {a : Act} {Q : Exit → Act → World → Prop} {w : World} (hgd : o.guard = none) (hd : o.dst = none) (x y : Operand) (ty : TypeId) (ho : o.op = .store ty x y) (hty : ty = 3)
    (g i : Nat) (z : Int) (hx : a.eval x = .pointer (some ⟨g, i, none⟩)) (hy : a.eval y = .int .i64 z)
    {cs : Array Value} {T : TypeId} (hg : w.heap[g]? = some (.cells cs T)) (hi : i < cs.size)
    (h : ∀ w' : World, PutM w w' g (.cells (cs.setIfInBounds i (.int .i64 z)) T) → wpList Tryz.prog ops Q rest a w') : wpList Tryz.prog ops Q (o :: rest) a w := by
  subst hty
  refine wpList_plain hgd fun _ hK => ?_
  unfold Oper.wp
  simp only [execOp, ho, hx, hy, Sem.run_bind, storeV_run hg hi, Result.andThen, Sem.run_pure]
  exact hK _ _ (by rw [hd]; exact h _ (putM_set hg))
/-- a text stored into a row -/
theorem listStoreT {ops : Array Oper} {rest : List Oper} {o : Oper} {a : Act} {Q : Exit → Act → World → Prop} {w : World} (hgd : o.guard = none) (hd : o.dst = none) (x y : Operand) (ty : TypeId) (ho : o.op = .store ty x y) (hty : ty = 9)
    (g i : Nat) (z : ByteArray) (hx : a.eval x = .pointer (some ⟨g, i, none⟩)) (hy : a.eval y = .string z)
    {cs : Array Value} {T : TypeId} (hg : w.heap[g]? = some (.cells cs T)) (hi : i < cs.size)
    (h : ∀ w' : World, PutM w w' g (.cells (cs.setIfInBounds i (.string z)) T) → wpList Tryz.prog ops Q rest a w') : wpList Tryz.prog ops Q (o :: rest) a w := by
  subst hty
  refine wpList_plain hgd fun _ hK => ?_
  unfold Oper.wp
  simp only [execOp, ho, hx, hy, Sem.run_bind, storeT_run hg hi, Result.andThen, Sem.run_pure]
  exact hK _ _ (by rw [hd]; exact h _ (putM_set hg))
def mnV (m : Mn) : Value := .agg #[.int .i64 m.a, .bool m.b, .int .i64 m.n, .int .i64 m.d, .string ⟨m.s.toArray⟩]
theorem box3m (w : World) (o p q : Obj) :
    (((w.alloc o).alloc p).alloc q).heap[w.heap.size]? = some o ∧ (((w.alloc o).alloc p).alloc q).heap[w.heap.size + 1]? = some p ∧ (((w.alloc o).alloc p).alloc q).heap[w.heap.size + 2]? = some q ∧ Below w.heap.size w (((w.alloc o).alloc p).alloc q) ∧ (((w.alloc o).alloc p).alloc q).heap.size = w.heap.size + 3 := by
  have h0 := heap_new w o
  have h1 := heap_new (w.alloc o) p
  have h2 := heap_new ((w.alloc o).alloc p) q
  refine ⟨row_on (row_on h0 (alM _ _)) (alM _ _), row_on (by simpa using h1) (alM _ _), by simpa using h2, bel_on (Nat.le_refl _) (bel_on (Nat.le_refl _) (alM _ _) (alM _ _)) (alM _ _), by simp⟩
theorem txt_size {s : List UInt8} {S : ByteArray} (h : (⟨s.toArray⟩ : ByteArray) = S) : S.size = s.length := by subst h; rfl
theorem txt_one (s : List UInt8) (x : UInt8) : (⟨s.toArray⟩ : ByteArray) ++ ⟨#[x]⟩ = ⟨(s ++ [x]).toArray⟩ := by
  apply ByteArray.ext
  simp [ByteArray.data_append]
theorem txt_nil {s : List UInt8} {S : ByteArray} (h : (⟨s.toArray⟩ : ByteArray) = S) : (S.toList = []) ↔ s = [] := by
  subst h
  rw [ByteArray.toList_eq]
end Go.Proofs.YtdifmjcghaoilaaGreatDoor

namespace Go.Proofs.YtdifmjcghaoilaaGreatDoor
open Go.RowKit Go.PlainAid
set_option linter.unusedVariables false
set_option linter.unusedSimpArgs false

theorem okM_at {m : Mn} (h : ¬ (1 ≤ m.a ∧ m.a ≤ 4)) : okM m = false := by
  cases e : okM m
  · rfl
  · exact absurd ((okM_iff m).1 e).1.1 h
theorem okM_n {m : Mn} (h : ¬ (0 ≤ m.n ∧ m.n ≤ 9999)) : okM m = false := by
  cases e : okM m
  · rfl
  · exact absurd ((okM_iff m).1 e).1.2.1 h
theorem okM_d {m : Mn} (h : ¬ (0 ≤ m.d ∧ m.d ≤ 9999)) : okM m = false := by
  cases e : okM m
  · rfl
  · exact absurd ((okM_iff m).1 e).1.2.2.1 h
theorem okM_l {m : Mn} (h : ¬ m.s.length ≤ 4) : okM m = false := by
  cases e : okM m
  · rfl
  · exact absurd ((okM_iff m).1 e).1.2.2.2 h
theorem okM_t {m : Mn} (h1 : m.a = 1) (h : ¬ (m.s = [] ∧ m.b = false ∧ m.n = 0 ∧ m.d = 0)) : okM m = false := by
  cases e : okM m
  · rfl
  · exact absurd (((okM_iff m).1 e).2.2 h1) h
def FigJ (s : List UInt8) (j : Nat) : Prop := ∀ k (h : k < s.length), k < j → figB s[k] = true
theorem figJ_zero (s : List UInt8) : FigJ s 0 := fun k _ h => by omega
theorem figJ_succ {s : List UInt8} {j : Nat} (h : FigJ s j) (hj : j < s.length) (hf : 48 ≤ (s[j].toNat : Int) ∧ (s[j].toNat : Int) ≤ 57) : FigJ s (j + 1) := fun k hk hlt => by
  rcases Nat.lt_or_ge k j with h1 | h1
  · exact h k hk h1
  · obtain rfl : k = j := by omega
    exact decide_eq_true hf
theorem figJ_all {s : List UInt8} {j : Nat} (h : FigJ s j) (hj : s.length ≤ j) : ∀ x ∈ s, figB x = true := fun x hx => by
  obtain ⟨k, hk, rfl⟩ := List.getElem_of_mem hx
  exact h k hk (by omega)
def numJ (s : List UInt8) (j : Nat) : Int := numF (s.take j)
theorem numJ_succ {s : List UInt8} {j : Nat} (h : j < s.length) : numJ s (j + 1) = 10 * numJ s j + (s[j].toNat : Int) - 48 := by
  unfold numJ numF
  rw [← List.take_append_getElem h, List.foldl_append]
  rfl
theorem numJ_bd {s : List UInt8} (hf : ∀ x ∈ s, figB x = true) (hl : s.length ≤ 4) (j : Nat) : 0 ≤ numJ s j ∧ numJ s j ≤ 9999 := numF_bd (fun x hx => hf x (List.mem_of_mem_take hx)) (by simp; omega)
end Go.Proofs.YtdifmjcghaoilaaGreatDoor

namespace Go.Proofs.YtdifmjcghaoilaaGreatDoor
open Go.RowKit Go.PlainAid
set_option linter.unusedVariables false
set_option linter.unusedSimpArgs false

end Go.Proofs.YtdifmjcghaoilaaGreatDoor

namespace Go.Proofs.YtdifmjcghaoilaaGreatDoor
open Go.RowKit Go.PlainAid
set_option linter.unusedVariables false
set_option linter.unusedSimpArgs false

theorem key_byte {key : Int} (h : 48 ≤ key ∧ key ≤ 57) : ∃ x : UInt8, (x.toNat : Int) = key ∧ UInt8.ofNat key.toNat = x := by
  refine ⟨UInt8.ofNat key.toNat, ?_, rfl⟩
  have : (UInt8.ofNat key.toNat).toNat = key.toNat := by simp; omega
  rw [this]
  omega
end Go.Proofs.YtdifmjcghaoilaaGreatDoor

namespace Go.Proofs.YtdifmjcghaoilaaGreatDoor
open Go.RowKit Go.PlainAid
set_option linter.unusedVariables false
set_option linter.unusedSimpArgs false

theorem al_at (w : World) (o : Obj) {k : Nat} (h : w.heap.size = k) : (w.alloc o).heap[k]? = some o := by subst h; exact heap_new w o
theorem set_rowP {w : World} {k : Nat} {T : TypeId} {a : Array Value} (h : w.heap[k]? = some (.cells a T)) (i : Nat) (x : Value) : (w.setCell ⟨k, i, none⟩ x).heap[k]? = some (.cells (a.setIfInBounds i x) T) := heap_setCell_same w k i _ _ x h
theorem le2 (n : Nat) : n ≤ n + 1 + 1 := by omega
/-- eight numbers stored into a pump's row, as one -/
theorem listStoreP {ops : Array Oper} {rest : List Oper} {o : Oper} {a : Act} {Q : Exit → Act → World → Prop} {w : World} (hgd : o.guard = none) (hd : o.dst = none) (x y : Operand) (ty : TypeId) (ho : o.op = .store ty x y) (hty : ty = 27)
    (g : Nat) (z0 z1 z2 z3 z4 z5 z6 z7 : Int) (hx : a.eval x = .pointer (some ⟨g, 0, none⟩)) (hy : a.eval y = PV z0 z1 z2 z3 z4 z5 z6 z7)
    {u0 u1 u2 u3 u4 u5 u6 u7 : Value} (hg : w.heap[g]? = some (.cells #[u0, u1, u2, u3, u4, u5, u6, u7] 27))
    (h : ∀ w' : World, w'.heap[g]? = some (PB z0 z1 z2 z3 z4 z5 z6 z7) → (∀ k, k ≠ g → w'.heap[k]? = w.heap[k]?) → w'.heap.size = w.heap.size → (∀ B W, B ≤ g → Below B W w → Below B W w') → wpList Tryz.prog ops Q rest a w') : wpList Tryz.prog ops Q (o :: rest) a w := by
  subst hty
  refine wpList_store_rowTo hgd _ x y ho hd g _ hx hy _ _ hg (by kernel_rfl) rfl (by kernel_rfl) ?_
  refine h _ (setRow_heap w g _ _ _ _ hg) (fun k hk => setRow_other w g k _ hk) (setRow_size w g _) (fun B W hB hb => ?_)
  exact ⟨hb.os, hb.tape, hb.output, by rw [setRow_size]; exact hb.size, fun k hk => by rw [setRow_other w g k _ (by omega)]; exact hb.block k hk⟩
theorem storeC_run {w : World} {g i : Nat} {z : Int} {cs : Array Value} {T : TypeId} (hg : w.heap[g]? = some (.cells cs T)) (hi : i < cs.size) : (Instr.storeAt 3 (.pointer (some ⟨g, i, none⟩)) (.int .i64 z)).run Tryz.prog w = .ok () (w.setCell ⟨g, i, none⟩ (.int .i64 z)) := by
  have k1 : w.cell? ⟨g, i, none⟩ = some cs[i] := by simp [World.cell?, hg, hi]
  have k2 : w.frozen? ⟨g, i, none⟩ = false := by simp [World.frozen?, hg]
  simp [go_sem, Instr.storeAt, k1, k2]
theorem storeR_run {w : World} {g : Nat} {z0 z1 z2 : Int} {u0 u1 u2 u3 u4 u5 u6 u7 : Value} {T : TypeId} (hg : w.heap[g]? = some (.cells #[u0, u1, u2, u3, u4, u5, u6, u7] T)) :
    (Instr.storeAt 25 (.pointer (some ⟨g, 1, none⟩)) (.agg #[.int .i64 z0, .int .i64 z1, .int .i64 z2])).run Tryz.prog w = .ok () (((w.setCell ⟨g, 1, none⟩ (.int .i64 z0)).setCell ⟨g, 2, none⟩ (.int .i64 z1)).setCell ⟨g, 3, none⟩ (.int .i64 z2)) := by
  have k := box8_cells hg
  simp [go_sem, Instr.storeAt, k]
/-- one number stored into a row -/
theorem listStoreC {ops : Array Oper} {rest : List Oper} {o : Oper} {a : Act} {Q : Exit → Act → World → Prop} {w : World} (hgd : o.guard = none) (hd : o.dst = none) (x y : Operand) (ty : TypeId) (ho : o.op = .store ty x y) (hty : ty = 3)
    (g i : Nat) (z : Int) (hx : a.eval x = .pointer (some ⟨g, i, none⟩)) (hy : a.eval y = .int .i64 z)
    {cs : Array Value} {T : TypeId} (hg : w.heap[g]? = some (.cells cs T)) (hi : i < cs.size)
    (h : ∀ w' : World, w'.heap[g]? = some (.cells (cs.setIfInBounds i (.int .i64 z)) T) → (∀ k, k ≠ g → w'.heap[k]? = w.heap[k]?) → w'.heap.size = w.heap.size → (∀ B W, B ≤ g → Below B W w → Below B W w') → wpList Tryz.prog ops Q rest a w') : wpList Tryz.prog ops Q (o :: rest) a w := by
  subst hty
  refine wpList_plain hgd fun _ hK => ?_
  unfold Oper.wp
  simp only [execOp, ho, hx, hy, Sem.run_bind, storeC_run hg hi, Result.andThen, Sem.run_pure]
  exact hK _ _ (by rw [hd]; exact h _ (set_rowP hg i _) (fun k hk => Below.heap_setCell _ _ _ _ hk) (by simp) (fun B W hB hb => hb.setCell hB _))
/-- a rate stored into a pump's row -/
theorem listStoreR {ops : Array Oper} {rest : List Oper} {o : Oper} {a : Act} {Q : Exit → Act → World → Prop} {w : World} (hgd : o.guard = none) (hd : o.dst = none) (x y : Operand) (ty : TypeId) (ho : o.op = .store ty x y) (hty : ty = 25)
    (g : Nat) (z0 z1 z2 : Int) (hx : a.eval x = .pointer (some ⟨g, 1, none⟩)) (hy : a.eval y = .agg #[.int .i64 z0, .int .i64 z1, .int .i64 z2])
    {u0 u1 u2 u3 u4 u5 u6 u7 : Value} {T : TypeId} (hg : w.heap[g]? = some (.cells #[u0, u1, u2, u3, u4, u5, u6, u7] T))
    (h : ∀ w' : World, w'.heap[g]? = some (.cells #[u0, .int .i64 z0, .int .i64 z1, .int .i64 z2, u4, u5, u6, u7] T) → (∀ k, k ≠ g → w'.heap[k]? = w.heap[k]?) → w'.heap.size = w.heap.size → (∀ B W, B ≤ g → Below B W w → Below B W w') → wpList Tryz.prog ops Q rest a w') : wpList Tryz.prog ops Q (o :: rest) a w := by
  subst hty
  refine wpList_plain hgd fun _ hK => ?_
  unfold Oper.wp
  simp only [execOp, ho, hx, hy, Sem.run_bind, storeR_run hg, Result.andThen, Sem.run_pure]
  exact hK _ _ (by rw [hd]; exact h _ (set_rowP (set_rowP (set_rowP hg 1 _) 2 _) 3 _) (fun k hk => (Below.heap_setCell _ _ _ _ hk).trans ((Below.heap_setCell _ _ _ _ hk).trans (Below.heap_setCell _ _ _ _ hk))) (by simp) (fun B W hB hb => ((hb.setCell hB _).setCell hB _).setCell hB _))
end Go.Proofs.YtdifmjcghaoilaaGreatDoor
