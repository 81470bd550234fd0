/-
  Take of the specification.
-/
import Derived.Test.YtpjnmkijndmemaaSpPok
import Derived.Great.BuildSlice
import Derived.Deep.CutBlock
namespace Go.Proofs.Ytpjnmkijndmemaa
open Go.RowKit Go.PlainAid
set_option linter.unusedVariables false
set_option linter.unusedSimpArgs false

theorem al_at (w : World) (o : Obj) {k : Nat} (h : w.heap.size = k) : (w.alloc o).heap[k]? = some o := by subst h; exact heap_new w o
theorem set_rowP {w : World} {k : Nat} {T : TypeId} {a : Array Value} (h : w.heap[k]? = some (.cells a T)) (i : Nat) (x : Value) : (w.setCell ⟨k, i, none⟩ x).heap[k]? = some (.cells (a.setIfInBounds i x) T) := heap_setCell_same w k i _ _ x h
theorem set_farP {w : World} {k g i : Nat} {o : Obj} {x : Value} (h : w.heap[g]? = some o) (hne : g ≠ k) : (w.setCell ⟨k, i, none⟩ x).heap[g]? = some o := (Below.heap_setCell _ _ _ _ hne).trans h
theorem le2 (n : Nat) : n ≤ n + 1 + 1 := by omega
/-- eight numbers stored into a pump's row, as one -/
theorem listStoreP {ops : Array Oper} {rest : List Oper} {o : Oper} {a : Act} {Q : Exit → Act → World → Prop} {w : World} (hgd : o.guard = none) (hd : o.dst = none) (x y : Operand) (ty : TypeId) (ho : o.op = .store ty x y) (hty : ty = 27)
    (g : Nat) (z0 z1 z2 z3 z4 z5 z6 z7 : Int) (hx : a.eval x = .pointer (some ⟨g, 0, none⟩)) (hy : a.eval y = .agg #[.int .i64 z0, .int .i64 z1, .int .i64 z2, .int .i64 z3, .int .i64 z4, .int .i64 z5, .int .i64 z6, .int .i64 z7])
    {u0 u1 u2 u3 u4 u5 u6 u7 : Value} (hg : w.heap[g]? = some (.cells #[u0, u1, u2, u3, u4, u5, u6, u7] 27))
    (h : ∀ w' : World, w'.heap[g]? = some (.cells #[.int .i64 z0, .int .i64 z1, .int .i64 z2, .int .i64 z3, .int .i64 z4, .int .i64 z5, .int .i64 z6, .int .i64 z7] 27) → (∀ k, k ≠ g → w'.heap[k]? = w.heap[k]?) → w'.heap.size = w.heap.size → (∀ B W, B ≤ g → Below B W w → Below B W w') → wpList Try.prog ops Q rest a w') : wpList Try.prog ops Q (o :: rest) a w := by
  subst hty
  refine wpList_store_rowTo hgd _ x y ho hd g _ hx hy _ _ hg (by kernel_rfl) rfl (by kernel_rfl) ?_
  refine h _ (setRow_heap w g _ _ _ _ hg) (fun k hk => setRow_other w g k _ hk) (setRow_size w g _) (fun B W hB hb => ?_)
  exact ⟨hb.os, hb.tape, hb.output, by rw [setRow_size]; exact hb.size, fun k hk => by rw [setRow_other w g k _ (by omega)]; exact hb.block k hk⟩
theorem storeC_run {w : World} {g i : Nat} {z : Int} {cs : Array Value} {T : TypeId} (hg : w.heap[g]? = some (.cells cs T)) (hi : i < cs.size) : (Instr.storeAt 3 (.pointer (some ⟨g, i, none⟩)) (.int .i64 z)).run Try.prog w = .ok () (w.setCell ⟨g, i, none⟩ (.int .i64 z)) := by
  have k1 : w.cell? ⟨g, i, none⟩ = some cs[i] := by simp [World.cell?, hg, hi]
  have k2 : w.frozen? ⟨g, i, none⟩ = false := by simp [World.frozen?, hg]
  simp [go_sem, Instr.storeAt, k1, k2]
theorem storeR_run {w : World} {g : Nat} {z0 z1 z2 : Int} {u0 u1 u2 u3 u4 u5 u6 u7 : Value} {T : TypeId} (hg : w.heap[g]? = some (.cells #[u0, u1, u2, u3, u4, u5, u6, u7] T)) :
    (Instr.storeAt 25 (.pointer (some ⟨g, 1, none⟩)) (.agg #[.int .i64 z0, .int .i64 z1, .int .i64 z2])).run Try.prog w = .ok () (((w.setCell ⟨g, 1, none⟩ (.int .i64 z0)).setCell ⟨g, 2, none⟩ (.int .i64 z1)).setCell ⟨g, 3, none⟩ (.int .i64 z2)) := by
  have k := box8_cells hg
  simp [go_sem, Instr.storeAt, k]
theorem bel_put {w W : World} {B g i : Nat} {v : Value} (h : Below B W w) (hB : B ≤ g) : Below B W (w.setCell ⟨g, i, none⟩ v) := h.setCell hB _
/-- one number stored into a row -/
theorem listStoreC {ops : Array Oper} {rest : List Oper} {o : Oper} {a : Act} {Q : Exit → Act → World → Prop} {w : World} (hgd : o.guard = none) (hd : o.dst = none) (x y : Operand) (ty : TypeId) (ho : o.op = .store ty x y) (hty : ty = 3)
    (g i : Nat) (z : Int) (hx : a.eval x = .pointer (some ⟨g, i, none⟩)) (hy : a.eval y = .int .i64 z)
    {cs : Array Value} {T : TypeId} (hg : w.heap[g]? = some (.cells cs T)) (hi : i < cs.size)
    (h : ∀ w' : World, w'.heap[g]? = some (.cells (cs.setIfInBounds i (.int .i64 z)) T) → (∀ k, k ≠ g → w'.heap[k]? = w.heap[k]?) → w'.heap.size = w.heap.size → (∀ B W, B ≤ g → Below B W w → Below B W w') → wpList Try.prog ops Q rest a w') : wpList Try.prog ops Q (o :: rest) a w := by
  subst hty
  refine wpList_plain hgd fun _ hK => ?_
  unfold Oper.wp
  simp only [execOp, ho, hx, hy, Sem.run_bind, storeC_run hg hi, Result.andThen, Sem.run_pure]
  exact hK _ _ (by rw [hd]; exact h _ (set_rowP hg i _) (fun k hk => Below.heap_setCell _ _ _ _ hk) (by simp) (fun B W hB hb => hb.setCell hB _))
/-- a rate stored into a pump's row -/
theorem listStoreR {ops : Array Oper} {rest : List Oper} {o : Oper} {a : Act} {Q : Exit → Act → World → Prop} {w : World} (hgd : o.guard = none) (hd : o.dst = none) (x y : Operand) (ty : TypeId) (ho : o.op = .store ty x y) (hty : ty = 25)
    (g : Nat) (z0 z1 z2 : Int) (hx : a.eval x = .pointer (some ⟨g, 1, none⟩)) (hy : a.eval y = .agg #[.int .i64 z0, .int .i64 z1, .int .i64 z2])
    {u0 u1 u2 u3 u4 u5 u6 u7 : Value} {T : TypeId} (hg : w.heap[g]? = some (.cells #[u0, u1, u2, u3, u4, u5, u6, u7] T))
    (h : ∀ w' : World, w'.heap[g]? = some (.cells #[u0, .int .i64 z0, .int .i64 z1, .int .i64 z2, u4, u5, u6, u7] T) → (∀ k, k ≠ g → w'.heap[k]? = w.heap[k]?) → w'.heap.size = w.heap.size → (∀ B W, B ≤ g → Below B W w → Below B W w') → wpList Try.prog ops Q rest a w') : wpList Try.prog ops Q (o :: rest) a w := by
  subst hty
  refine wpList_plain hgd fun _ hK => ?_
  unfold Oper.wp
  simp only [execOp, ho, hx, hy, Sem.run_bind, storeR_run hg, Result.andThen, Sem.run_pure]
  exact hK _ _ (by rw [hd]; exact h _ (set_rowP (set_rowP (set_rowP hg 1 _) 2 _) 3 _) (fun k hk => (Below.heap_setCell _ _ _ _ hk).trans ((Below.heap_setCell _ _ _ _ hk).trans (Below.heap_setCell _ _ _ _ hk))) (by simp) (fun B W hB hb => ((hb.setCell hB _).setCell hB _).setCell hB _))
set_option maxRecDepth 100000 in
set_option maxHeartbeats 4000000 in
theorem takeS_p (s n d r l b g k K N D V : Int) (hp : ¬ Pm.ok ⟨s, n, d, r, l, b, g, k⟩) (w : World) : Calls Try.prog 17 #[.agg #[.int .i64 s, .int .i64 n, .int .i64 d, .int .i64 r, .int .i64 l, .int .i64 b, .int .i64 g, .int .i64 k], .agg #[.int .i64 K, .int .i64 N, .int .i64 D, .int .i64 V]] w fun e w' => e = .returned (.tuple #[(Pm.take ⟨s, n, d, r, l, b, g, k⟩ K N D V).1.V, .bool (Pm.take ⟨s, n, d, r, l, b, g, k⟩ K N D V).2]) ∧ Below w.heap.size w w' := by
  have HT : Hid (Pm.take ⟨s, n, d, r, l, b, g, k⟩ K N D V = (⟨s, n, d, r, l, b, g, k⟩, false)) := by show _ = _; unfold Pm.take; rw [ok_no hp]; simp
  have KP : Hid (∀ w, Calls Try.prog 27 #[.agg #[.int .i64 s, .int .i64 n, .int .i64 d, .int .i64 r, .int .i64 l, .int .i64 b, .int .i64 g, .int .i64 k]] w fun e w' => e = .returned (.bool false) ∧ Below w.heap.size w w') := fun w => pumpokS ⟨s, n, d, r, l, b, g, k⟩ false ⟨fun h => (by cases h), fun h => absurd h hp⟩ w
  clear hp
  have HB0 : Hid (Below w.heap.size w (((w.alloc (.cells #[.int .i64 s, .int .i64 n, .int .i64 d, .int .i64 r, .int .i64 l, .int .i64 b, .int .i64 g, .int .i64 k] 27)).alloc (.cells #[.int .i64 K, .int .i64 N, .int .i64 D, .int .i64 V] 30)).alloc (.cells #[.int .i64 0, .int .i64 0, .int .i64 0, .int .i64 0, .int .i64 0, .int .i64 0, .int .i64 0, .int .i64 0] 27))) := bel_on (Nat.le_refl _) (bel_on (Nat.le_refl _) (alP _ _) (alP _ _)) (alP _ _)
  have HP0 : Hid ((((w.alloc (.cells #[.int .i64 s, .int .i64 n, .int .i64 d, .int .i64 r, .int .i64 l, .int .i64 b, .int .i64 g, .int .i64 k] 27)).alloc (.cells #[.int .i64 K, .int .i64 N, .int .i64 D, .int .i64 V] 30)).alloc (.cells #[.int .i64 0, .int .i64 0, .int .i64 0, .int .i64 0, .int .i64 0, .int .i64 0, .int .i64 0, .int .i64 0] 27)).heap[w.heap.size]? = some (.cells #[.int .i64 s, .int .i64 n, .int .i64 d, .int .i64 r, .int .i64 l, .int .i64 b, .int .i64 g, .int .i64 k] 27)) := row_on (row_on (heap_new w _) (alP _ _)) (alP _ _)
  have HO0 : Hid ((((w.alloc (.cells #[.int .i64 s, .int .i64 n, .int .i64 d, .int .i64 r, .int .i64 l, .int .i64 b, .int .i64 g, .int .i64 k] 27)).alloc (.cells #[.int .i64 K, .int .i64 N, .int .i64 D, .int .i64 V] 30)).alloc (.cells #[.int .i64 0, .int .i64 0, .int .i64 0, .int .i64 0, .int .i64 0, .int .i64 0, .int .i64 0, .int .i64 0] 27)).heap[w.heap.size + 1]? = some (.cells #[.int .i64 K, .int .i64 N, .int .i64 D, .int .i64 V] 30)) := row_on (al_at (w.alloc (.cells #[.int .i64 s, .int .i64 n, .int .i64 d, .int .i64 r, .int .i64 l, .int .i64 b, .int .i64 g, .int .i64 k] 27)) _ (by simp)) (alP _ _)
  have HZ0 : Hid ((((w.alloc (.cells #[.int .i64 s, .int .i64 n, .int .i64 d, .int .i64 r, .int .i64 l, .int .i64 b, .int .i64 g, .int .i64 k] 27)).alloc (.cells #[.int .i64 K, .int .i64 N, .int .i64 D, .int .i64 V] 30)).alloc (.cells #[.int .i64 0, .int .i64 0, .int .i64 0, .int .i64 0, .int .i64 0, .int .i64 0, .int .i64 0, .int .i64 0] 27)).heap[w.heap.size + 1 + 1]? = some (.cells #[.int .i64 0, .int .i64 0, .int .i64 0, .int .i64 0, .int .i64 0, .int .i64 0, .int .i64 0, .int .i64 0] 27)) := al_at ((w.alloc (.cells #[.int .i64 s, .int .i64 n, .int .i64 d, .int .i64 r, .int .i64 l, .int .i64 b, .int .i64 g, .int .i64 k] 27)).alloc (.cells #[.int .i64 K, .int .i64 N, .int .i64 D, .int .i64 V] 30)) _ (by simp)
  have p0 := box8_cells HP0.out
  have o0 := box4_cells HO0.out
  go_enter Try.func17, Try.ntmps17
  go_wp2_with fail
  refine (KP.out _).mono ?_
  rintro e w1 ⟨rfl, hb1⟩
  have HB1 : Hid (Below w.heap.size w w1) := bel_on (Nat.le_refl _) HB0.out hb1
  have HP1 : Hid (w1.heap[w.heap.size]? = some (.cells #[.int .i64 s, .int .i64 n, .int .i64 d, .int .i64 r, .int .i64 l, .int .i64 b, .int .i64 g, .int .i64 k] 27)) := row_on HP0.out hb1
  have HO1 : Hid (w1.heap[w.heap.size + 1]? = some (.cells #[.int .i64 K, .int .i64 N, .int .i64 D, .int .i64 V] 30)) := row_on HO0.out hb1
  have HZ1 : Hid (w1.heap[w.heap.size + 1 + 1]? = some (.cells #[.int .i64 0, .int .i64 0, .int .i64 0, .int .i64 0, .int .i64 0, .int .i64 0, .int .i64 0, .int .i64 0] 27)) := row_on HZ0.out hb1
  have p1 := box8_cells HP1.out
  have o1 := box4_cells HO1.out
  have z1 := box8_cells HZ1.out
  clear hb1 HB0 HP0 HO0 HZ0 p0 o0
  go_wp2_with (refine listStoreP rfl rfl _ _ _ rfl rfl (w.heap.size + 1 + 1) (s) (n) (d) (r) (l) (b) (g) (k) rfl rfl HZ1.out ?_)
  intro w9 hr9 ho9 hs9 hB9
  have HF : Hid (Below w.heap.size w w9) := hB9 _ _ (le2 _) HB1.out
  have HRf : Hid (w9.heap[w.heap.size + 1 + 1]? = some (.cells #[.int .i64 s, .int .i64 n, .int .i64 d, .int .i64 r, .int .i64 l, .int .i64 b, .int .i64 g, .int .i64 k] 27)) := hr9
  clear ho9 hs9 hB9 hr9
  obtain ⟨⟨q0, q1, q2, q3, q4, q5, q6, q7⟩, _⟩ := box8_cells HRf.out
  go_wp2
  refine bodyPost_ret (v := .tuple #[.agg #[.int .i64 s, .int .i64 n, .int .i64 d, .int .i64 r, .int .i64 l, .int .i64 b, .int .i64 g, .int .i64 k], .bool false]) (by simp only [results, Try.results17]; simp [go_sem, q0, q1, q2, q3, q4, q5, q6, q7]) rfl ⟨by rw [HT.out]; rfl, HF.out⟩
set_option maxRecDepth 100000 in
set_option maxHeartbeats 4000000 in
theorem takeS_o (s n d r l b g k K N D V : Int) (hp : Pm.ok ⟨s, n, d, r, l, b, g, k⟩) (ho : ¬ OrdR K N D V) (w : World) : Calls Try.prog 17 #[.agg #[.int .i64 s, .int .i64 n, .int .i64 d, .int .i64 r, .int .i64 l, .int .i64 b, .int .i64 g, .int .i64 k], .agg #[.int .i64 K, .int .i64 N, .int .i64 D, .int .i64 V]] w fun e w' => e = .returned (.tuple #[(Pm.take ⟨s, n, d, r, l, b, g, k⟩ K N D V).1.V, .bool (Pm.take ⟨s, n, d, r, l, b, g, k⟩ K N D V).2]) ∧ Below w.heap.size w w' := by
  have HT : Hid (Pm.take ⟨s, n, d, r, l, b, g, k⟩ K N D V = (⟨s, n, d, r, l, b, g, k⟩, false)) := by show _ = _; unfold Pm.take; rw [or_no ho]; simp
  have KP : Hid (∀ w, Calls Try.prog 27 #[.agg #[.int .i64 s, .int .i64 n, .int .i64 d, .int .i64 r, .int .i64 l, .int .i64 b, .int .i64 g, .int .i64 k]] w fun e w' => e = .returned (.bool true) ∧ Below w.heap.size w w') := fun w => pumpokS ⟨s, n, d, r, l, b, g, k⟩ true ⟨fun _ => hp, fun _ => rfl⟩ w
  have KO : Hid (∀ w, Calls Try.prog 36 #[.agg #[.int .i64 K, .int .i64 N, .int .i64 D, .int .i64 V]] w fun e w' => e = .returned (.bool false) ∧ Below w.heap.size w w') := fun w => ordokS K N D V false ⟨fun h => (by cases h), fun h => absurd h ho⟩ w
  clear hp ho
  have HB0 : Hid (Below w.heap.size w (((w.alloc (.cells #[.int .i64 s, .int .i64 n, .int .i64 d, .int .i64 r, .int .i64 l, .int .i64 b, .int .i64 g, .int .i64 k] 27)).alloc (.cells #[.int .i64 K, .int .i64 N, .int .i64 D, .int .i64 V] 30)).alloc (.cells #[.int .i64 0, .int .i64 0, .int .i64 0, .int .i64 0, .int .i64 0, .int .i64 0, .int .i64 0, .int .i64 0] 27))) := bel_on (Nat.le_refl _) (bel_on (Nat.le_refl _) (alP _ _) (alP _ _)) (alP _ _)
  have HP0 : Hid ((((w.alloc (.cells #[.int .i64 s, .int .i64 n, .int .i64 d, .int .i64 r, .int .i64 l, .int .i64 b, .int .i64 g, .int .i64 k] 27)).alloc (.cells #[.int .i64 K, .int .i64 N, .int .i64 D, .int .i64 V] 30)).alloc (.cells #[.int .i64 0, .int .i64 0, .int .i64 0, .int .i64 0, .int .i64 0, .int .i64 0, .int .i64 0, .int .i64 0] 27)).heap[w.heap.size]? = some (.cells #[.int .i64 s, .int .i64 n, .int .i64 d, .int .i64 r, .int .i64 l, .int .i64 b, .int .i64 g, .int .i64 k] 27)) := row_on (row_on (heap_new w _) (alP _ _)) (alP _ _)
  have HO0 : Hid ((((w.alloc (.cells #[.int .i64 s, .int .i64 n, .int .i64 d, .int .i64 r, .int .i64 l, .int .i64 b, .int .i64 g, .int .i64 k] 27)).alloc (.cells #[.int .i64 K, .int .i64 N, .int .i64 D, .int .i64 V] 30)).alloc (.cells #[.int .i64 0, .int .i64 0, .int .i64 0, .int .i64 0, .int .i64 0, .int .i64 0, .int .i64 0, .int .i64 0] 27)).heap[w.heap.size + 1]? = some (.cells #[.int .i64 K, .int .i64 N, .int .i64 D, .int .i64 V] 30)) := row_on (al_at (w.alloc (.cells #[.int .i64 s, .int .i64 n, .int .i64 d, .int .i64 r, .int .i64 l, .int .i64 b, .int .i64 g, .int .i64 k] 27)) _ (by simp)) (alP _ _)
  have HZ0 : Hid ((((w.alloc (.cells #[.int .i64 s, .int .i64 n, .int .i64 d, .int .i64 r, .int .i64 l, .int .i64 b, .int .i64 g, .int .i64 k] 27)).alloc (.cells #[.int .i64 K, .int .i64 N, .int .i64 D, .int .i64 V] 30)).alloc (.cells #[.int .i64 0, .int .i64 0, .int .i64 0, .int .i64 0, .int .i64 0, .int .i64 0, .int .i64 0, .int .i64 0] 27)).heap[w.heap.size + 1 + 1]? = some (.cells #[.int .i64 0, .int .i64 0, .int .i64 0, .int .i64 0, .int .i64 0, .int .i64 0, .int .i64 0, .int .i64 0] 27)) := al_at ((w.alloc (.cells #[.int .i64 s, .int .i64 n, .int .i64 d, .int .i64 r, .int .i64 l, .int .i64 b, .int .i64 g, .int .i64 k] 27)).alloc (.cells #[.int .i64 K, .int .i64 N, .int .i64 D, .int .i64 V] 30)) _ (by simp)
  have p0 := box8_cells HP0.out
  have o0 := box4_cells HO0.out
  go_enter Try.func17, Try.ntmps17
  go_wp2_with fail
  refine (KP.out _).mono ?_
  rintro e w1 ⟨rfl, hb1⟩
  have HB1 : Hid (Below w.heap.size w w1) := bel_on (Nat.le_refl _) HB0.out hb1
  have HP1 : Hid (w1.heap[w.heap.size]? = some (.cells #[.int .i64 s, .int .i64 n, .int .i64 d, .int .i64 r, .int .i64 l, .int .i64 b, .int .i64 g, .int .i64 k] 27)) := row_on HP0.out hb1
  have HO1 : Hid (w1.heap[w.heap.size + 1]? = some (.cells #[.int .i64 K, .int .i64 N, .int .i64 D, .int .i64 V] 30)) := row_on HO0.out hb1
  have HZ1 : Hid (w1.heap[w.heap.size + 1 + 1]? = some (.cells #[.int .i64 0, .int .i64 0, .int .i64 0, .int .i64 0, .int .i64 0, .int .i64 0, .int .i64 0, .int .i64 0] 27)) := row_on HZ0.out hb1
  have p1 := box8_cells HP1.out
  have o1 := box4_cells HO1.out
  have z1 := box8_cells HZ1.out
  clear hb1 HB0 HP0 HO0 HZ0 p0 o0
  go_wp2_with fail
  refine (KO.out _).mono ?_
  rintro e w2 ⟨rfl, hb2⟩
  have HB2 : Hid (Below w.heap.size w w2) := bel_on (Nat.le_refl _) HB1.out hb2
  have HP2 : Hid (w2.heap[w.heap.size]? = some (.cells #[.int .i64 s, .int .i64 n, .int .i64 d, .int .i64 r, .int .i64 l, .int .i64 b, .int .i64 g, .int .i64 k] 27)) := row_on HP1.out hb2
  have HO2 : Hid (w2.heap[w.heap.size + 1]? = some (.cells #[.int .i64 K, .int .i64 N, .int .i64 D, .int .i64 V] 30)) := row_on HO1.out hb2
  have HZ2 : Hid (w2.heap[w.heap.size + 1 + 1]? = some (.cells #[.int .i64 0, .int .i64 0, .int .i64 0, .int .i64 0, .int .i64 0, .int .i64 0, .int .i64 0, .int .i64 0] 27)) := row_on HZ1.out hb2
  have p2 := box8_cells HP2.out
  have o2 := box4_cells HO2.out
  have z2 := box8_cells HZ2.out
  have hl2 := row_lt HZ2.out
  clear hb2 HB1 HP1 HO1 HZ1 p1 o1 z1
  go_wp2_with (refine listStoreP rfl rfl _ _ _ rfl rfl (w.heap.size + 1 + 1) (s) (n) (d) (r) (l) (b) (g) (k) rfl rfl HZ2.out ?_)
  intro w9 hr9 ho9 hs9 hB9
  have HF : Hid (Below w.heap.size w w9) := hB9 _ _ (le2 _) HB2.out
  have HRf : Hid (w9.heap[w.heap.size + 1 + 1]? = some (.cells #[.int .i64 s, .int .i64 n, .int .i64 d, .int .i64 r, .int .i64 l, .int .i64 b, .int .i64 g, .int .i64 k] 27)) := hr9
  clear ho9 hs9 hB9 hr9
  obtain ⟨⟨q0, q1, q2, q3, q4, q5, q6, q7⟩, _⟩ := box8_cells HRf.out
  go_wp2
  refine bodyPost_ret (v := .tuple #[.agg #[.int .i64 s, .int .i64 n, .int .i64 d, .int .i64 r, .int .i64 l, .int .i64 b, .int .i64 g, .int .i64 k], .bool false]) (by simp only [results, Try.results17]; simp [go_sem, q0, q1, q2, q3, q4, q5, q6, q7]) rfl ⟨by rw [HT.out]; rfl, HF.out⟩
end Go.Proofs.Ytpjnmkijndmemaa
