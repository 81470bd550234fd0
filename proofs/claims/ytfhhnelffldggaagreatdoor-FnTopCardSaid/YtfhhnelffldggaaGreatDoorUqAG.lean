/-
  Menus: rows of memory, stores.
-/
import Derived.Test.YtfhhnelffldggaaGreatDoorUqAC
import Derived.Great.BuildSlice
import Derived.Deep.CutBlock
import Derived.Test.YtfhhnelffldggaaGreatDoorUqAE
set_option maxRecDepth 100000
set_option maxHeartbeats 16000000
namespace Go.Proofs.YtfhhnelffldggaaGreatDoor
open Go.RowKit Go.PlainAid
set_option linter.unusedVariables false
set_option linter.unusedSimpArgs false
theorem alM (w : World) (o : Obj) : Below w.heap.size w (w.alloc o) := (Below.refl _ _).alloc (Nat.le_refl _) _
def PutM (w w' : World) (g : Nat) (o : Obj) : Prop := w'.heap[g]? = some o ∧ (∀ k, k ≠ g → w'.heap[k]? = w.heap[k]?) ∧ w'.heap.size = w.heap.size ∧ (∀ B W, B ≤ g → Below B W w → Below B W w')
theorem PutM.far {w w' : World} {g k : Nat} {o p : Obj} (h : PutM w w' g o) (hr : w.heap[k]? = some p) (hne : k ≠ g) : w'.heap[k]? = some p := (h.2.1 k hne).trans hr
theorem box5_cells {w : World} {k : Nat} {t : TypeId} {x0 x1 x2 x3 x4 : Value} (h : w.heap[k]? = some (.cells #[x0, x1, x2, x3, x4] t)) :
    (w.cell? ⟨k, 0, none⟩ = some x0 ∧ w.cell? ⟨k, 1, none⟩ = some x1 ∧ w.cell? ⟨k, 2, none⟩ = some x2 ∧ w.cell? ⟨k, 3, none⟩ = some x3 ∧ w.cell? ⟨k, 4, none⟩ = some x4) ∧ w.frozen? ⟨k, 0, none⟩ = false ∧ w.frozen? ⟨k, 1, none⟩ = false ∧ w.frozen? ⟨k, 2, none⟩ = false ∧ w.frozen? ⟨k, 3, none⟩ = false ∧ w.frozen? ⟨k, 4, none⟩ = false := by
  refine ⟨⟨?_, ?_, ?_, ?_, ?_⟩, ?_, ?_, ?_, ?_, ?_⟩ <;> simp [World.cell?, World.frozen?, h]
theorem putM_row {w : World} {g : Nat} {cs old : Array Value} {T : TypeId} (hg : w.heap[g]? = some (.cells old T)) : PutM w (w.setRow g cs) g (.cells cs T) :=
  ⟨setRow_heap w g _ _ _ _ hg, fun k hk => setRow_other w g k _ hk, setRow_size w g _, fun B W hB hb => ⟨hb.os, hb.tape, hb.output, by rw [setRow_size]; exact hb.size, fun k hk => by rw [setRow_other w g k _ (by omega)]; exact hb.block k hk⟩⟩
theorem putM_set {w : World} {g i : Nat} {v : Value} {cs : Array Value} {T : TypeId} (hg : w.heap[g]? = some (.cells cs T)) : PutM w (w.setCell ⟨g, i, none⟩ v) g (.cells (cs.setIfInBounds i v) T) :=
  ⟨heap_setCell_same w g i _ _ v hg, fun k hk => Below.heap_setCell _ _ _ _ hk, by simp, fun B W hB hb => hb.setCell hB _⟩
theorem listStoreM {ops : Array Oper} {rest : List Oper} {o : Oper} {a : Act} {Q : Exit → Act → World → Prop} {w : World} (hgd : o.guard = none) (hd : o.dst = none) (x y : Operand) (ty : TypeId) (ho : o.op = .store ty x y) (hty : ty = 34)
    (g : Nat) (za : Int) (zb : Bool) (zn zd : Int) (zs : ByteArray) (hx : a.eval x = .pointer (some ⟨g, 0, none⟩)) (hy : a.eval y = .agg #[.int .i64 za, .bool zb, .int .i64 zn, .int .i64 zd, .string zs])
    {u0 u1 u2 u3 u4 : Value} (hg : w.heap[g]? = some (.cells #[u0, u1, u2, u3, u4] 34))
    (h : ∀ w' : World, PutM w w' g (.cells #[.int .i64 za, .bool zb, .int .i64 zn, .int .i64 zd, .string zs] 34) → wpList Tryz.prog ops Q rest a w') : wpList Tryz.prog ops Q (o :: rest) a w := by
  subst hty
  refine wpList_store_rowTo hgd _ x y ho hd g _ hx hy _ _ hg (by kernel_rfl) rfl (by kernel_rfl) ?_
  exact h _ (putM_row hg)
theorem listStoreO {ops : Array Oper} {rest : List Oper} {o : Oper} {a : Act} {Q : Exit → Act → World → Prop} {w : World} (hgd : o.guard = none) (hd : o.dst = none) (x y : Operand) (ty : TypeId) (ho : o.op = .store ty x y) (hty : ty = 82)
    (g : Nat) (zk zn zd zv : Int) (hx : a.eval x = .pointer (some ⟨g, 0, none⟩)) (hy : a.eval y = .agg #[.int .i64 zk, .int .i64 zn, .int .i64 zd, .int .i64 zv])
    {u0 u1 u2 u3 : Value} (hg : w.heap[g]? = some (.cells #[u0, u1, u2, u3] 82))
    (h : ∀ w' : World, PutM w w' g (oB zk zn zd zv) → wpList Tryz.prog ops Q rest a w') : wpList Tryz.prog ops Q (o :: rest) a w := by
  subst hty
  refine wpList_store_rowTo hgd _ x y ho hd g _ hx hy _ _ hg (by kernel_rfl) rfl (by kernel_rfl) ?_
  exact h _ (putM_row hg)
theorem storeM_any {ops : Array Oper} {o : Oper} {a : Act} {K : Act → World → Prop} {Q : Exit → Act → World → Prop} {E : Prop} {w : World} (hw : Region.wanted o (yielded ops a.tmps) = true) (hd : o.dst = none) (x y : Operand) (ty : TypeId) (ho : o.op = .store ty x y) (hty : ty = 34)
    (g : Nat) (za : Int) (zb : Bool) (zn zd : Int) (zs : ByteArray) (hx : a.eval x = .pointer (some ⟨g, 0, none⟩)) (hy : a.eval y = .agg #[.int .i64 za, .bool zb, .int .i64 zn, .int .i64 zd, .string zs])
    {u0 u1 u2 u3 u4 : Value} (hg : w.heap[g]? = some (.cells #[u0, u1, u2, u3, u4] 34))
    (h : ∀ w' : World, PutM w w' g (.cells #[.int .i64 za, .bool zb, .int .i64 zn, .int .i64 zd, .string zs] 34) → K a w') : if Region.wanted o (yielded ops a.tmps) = true then Oper.wp Tryz.prog o a w K Q else E := by
  subst hty
  rw [if_pos hw]
  refine wp_store_row _ x y ho g _ hx hy _ _ hg (by kernel_rfl) rfl (by kernel_rfl) ?_
  rw [hd]
  exact h _ (putM_row hg)
theorem storeO_any {ops : Array Oper} {o : Oper} {a : Act} {K : Act → World → Prop} {Q : Exit → Act → World → Prop} {E : Prop} {w : World} (hw : Region.wanted o (yielded ops a.tmps) = true) (hd : o.dst = none) (x y : Operand) (ty : TypeId) (ho : o.op = .store ty x y) (hty : ty = 82)
    (g : Nat) (zk zn zd zv : Int) (hx : a.eval x = .pointer (some ⟨g, 0, none⟩)) (hy : a.eval y = .agg #[.int .i64 zk, .int .i64 zn, .int .i64 zd, .int .i64 zv])
    {u0 u1 u2 u3 : Value} (hg : w.heap[g]? = some (.cells #[u0, u1, u2, u3] 82))
    (h : ∀ w' : World, PutM w w' g (oB zk zn zd zv) → K a w') : if Region.wanted o (yielded ops a.tmps) = true then Oper.wp Tryz.prog o a w K Q else E := by
  subst hty
  rw [if_pos hw]
  refine wp_store_row _ x y ho g _ hx hy _ _ hg (by kernel_rfl) rfl (by kernel_rfl) ?_
  rw [hd]
  exact h _ (putM_row hg)
theorem ky4 {w w' : World} {Y : Nat} {x0 x1 x2 x3 : Value} {T : TypeId} (h : w'.heap[Y]? = some (.cells #[x0, x1, x2, x3] T)) (hb : Below w.heap.size w w') : w'.cell? ⟨Y, 0, none⟩ = some x0 ∧ w'.cell? ⟨Y, 1, none⟩ = some x1 ∧ w'.cell? ⟨Y, 2, none⟩ = some x2 ∧ w'.cell? ⟨Y, 3, none⟩ = some x3 ∧ Below w.heap.size w w' := by
  have k := box4_cells h
  exact ⟨k.1.1, k.1.2.1, k.1.2.2.1, k.1.2.2.2, hb⟩
theorem storeV_run {w : World} {g i : Nat} {z : Int} {cs : Array Value} {T : TypeId} (hg : w.heap[g]? = some (.cells cs T)) (hi : i < cs.size) : (Instr.storeAt 3 (.pointer (some ⟨g, i, none⟩)) (.int .i64 z)).run Tryz.prog w = .ok () (w.setCell ⟨g, i, none⟩ (.int .i64 z)) := by
  have k1 : w.cell? ⟨g, i, none⟩ = some cs[i] := by simp [World.cell?, hg, hi]
  have k2 : w.frozen? ⟨g, i, none⟩ = false := by simp [World.frozen?, hg]
  simp [go_sem, Instr.storeAt, k1, k2]
theorem storeT_run {w : World} {g i : Nat} {s : ByteArray} {cs : Array Value} {T : TypeId} (hg : w.heap[g]? = some (.cells cs T)) (hi : i < cs.size) : (Instr.storeAt 9 (.pointer (some ⟨g, i, none⟩)) (.string s)).run Tryz.prog w = .ok () (w.setCell ⟨g, i, none⟩ (.string s)) := by
  have k1 : w.cell? ⟨g, i, none⟩ = some cs[i] := by simp [World.cell?, hg, hi]
  have k2 : w.frozen? ⟨g, i, none⟩ = false := by simp [World.frozen?, hg]
  simp [go_sem, Instr.storeAt, k1, k2]
theorem listStoreI {ops : Array Oper} {rest : List Oper} {o : Oper} {a : Act} {Q : Exit → Act → World → Prop} {w : World} (hgd : o.guard = none) (hd : o.dst = none) (x y : Operand) (ty : TypeId) (ho : o.op = .store ty x y) (hty : ty = 3)
    (g i : Nat) (z : Int) (hx : a.eval x = .pointer (some ⟨g, i, none⟩)) (hy : a.eval y = .int .i64 z)
    {cs : Array Value} {T : TypeId} (hg : w.heap[g]? = some (.cells cs T)) (hi : i < cs.size)
    (h : ∀ w' : World, PutM w w' g (.cells (cs.setIfInBounds i (.int .i64 z)) T) → wpList Tryz.prog ops Q rest a w') : wpList Tryz.prog ops Q (o :: rest) a w := by
  subst hty
  refine wpList_plain hgd fun _ hK => ?_
  unfold Oper.wp
  simp only [execOp, ho, hx, hy, Sem.run_bind, storeV_run hg hi, Result.andThen, Sem.run_pure]
  exact hK _ _ (by rw [hd]; exact h _ (putM_set hg))
theorem listStoreT {ops : Array Oper} {rest : List Oper} {o : Oper} {a : Act} {Q : Exit → Act → World → Prop} {w : World} (hgd : o.guard = none) (hd : o.dst = none) (x y : Operand) (ty : TypeId) (ho : o.op = .store ty x y) (hty : ty = 9)
    (g i : Nat) (z : ByteArray) (hx : a.eval x = .pointer (some ⟨g, i, none⟩)) (hy : a.eval y = .string z)
    {cs : Array Value} {T : TypeId} (hg : w.heap[g]? = some (.cells cs T)) (hi : i < cs.size)
    (h : ∀ w' : World, PutM w w' g (.cells (cs.setIfInBounds i (.string z)) T) → wpList Tryz.prog ops Q rest a w') : wpList Tryz.prog ops Q (o :: rest) a w := by
  subst hty
  refine wpList_plain hgd fun _ hK => ?_
  unfold Oper.wp
  simp only [execOp, ho, hx, hy, Sem.run_bind, storeT_run hg hi, Result.andThen, Sem.run_pure]
  exact hK _ _ (by rw [hd]; exact h _ (putM_set hg))
def mnV (m : Mn) : Value := .agg #[.int .i64 m.a, .bool m.b, .int .i64 m.n, .int .i64 m.d, .string ⟨m.s.toArray⟩]
theorem box3m (w : World) (o p q : Obj) :
    (((w.alloc o).alloc p).alloc q).heap[w.heap.size]? = some o ∧ (((w.alloc o).alloc p).alloc q).heap[w.heap.size + 1]? = some p ∧ (((w.alloc o).alloc p).alloc q).heap[w.heap.size + 2]? = some q ∧ Below w.heap.size w (((w.alloc o).alloc p).alloc q) ∧ (((w.alloc o).alloc p).alloc q).heap.size = w.heap.size + 3 := by
  have h0 := heap_new w o
  have h1 := heap_new (w.alloc o) p
  have h2 := heap_new ((w.alloc o).alloc p) q
  refine ⟨row_on (row_on h0 (alM _ _)) (alM _ _), row_on (by simpa using h1) (alM _ _), by simpa using h2, bel_on (Nat.le_refl _) (bel_on (Nat.le_refl _) (alM _ _) (alM _ _)) (alM _ _), by simp⟩
theorem txt_size {s : List UInt8} {S : ByteArray} (h : (⟨s.toArray⟩ : ByteArray) = S) : S.size = s.length := by subst h; rfl
theorem txt_bt {s : List UInt8} {S : ByteArray} (h : (⟨s.toArray⟩ : ByteArray) = S) (k : Nat) (hk : k < s.length) : bt S k = (s[k].toNat : Int) := by
  subst h
  rw [← get_bt (⟨s.toArray⟩ : ByteArray) k hk]
  rfl
theorem txt_one (s : List UInt8) (x : UInt8) : (⟨s.toArray⟩ : ByteArray) ++ ⟨#[x]⟩ = ⟨(s ++ [x]).toArray⟩ := by
  apply ByteArray.ext
  simp [ByteArray.data_append]
theorem txt_nil {s : List UInt8} {S : ByteArray} (h : (⟨s.toArray⟩ : ByteArray) = S) : (S.toList = []) ↔ s = [] := by
  subst h
  rw [ByteArray.toList_eq]
theorem menunewS (w : World) : Calls Tryz.prog 47 #[] w fun e w' => e = .returned (mnV newM) ∧ Below w.heap.size w w' := by
  go_enter Tryz.func47, Tryz.ntmps47
  go_wp2
  refine bodyPost_ret (v := mnV newM) (by simp [results, Tryz.results47, go_sem, mnV, newM]) rfl ⟨rfl, ?_⟩
  first | exact alM _ _ | (repeat' (first | exact alM _ _ | refine Below.setCell ?_ (Nat.le_refl _) _))
theorem okM_at {m : Mn} (h : ¬ (1 ≤ m.a ∧ m.a ≤ 4)) : okM m = false := by
  cases e : okM m
  · rfl
  · exact absurd ((okM_iff m).1 e).1.1 h
theorem okM_n {m : Mn} (h : ¬ (0 ≤ m.n ∧ m.n ≤ 9999)) : okM m = false := by
  cases e : okM m
  · rfl
  · exact absurd ((okM_iff m).1 e).1.2.1 h
theorem okM_d {m : Mn} (h : ¬ (0 ≤ m.d ∧ m.d ≤ 9999)) : okM m = false := by
  cases e : okM m
  · rfl
  · exact absurd ((okM_iff m).1 e).1.2.2.1 h
theorem okM_l {m : Mn} (h : ¬ m.s.length ≤ 4) : okM m = false := by
  cases e : okM m
  · rfl
  · exact absurd ((okM_iff m).1 e).1.2.2.2 h
theorem okM_f {m : Mn} {k : Nat} (hk : k < m.s.length) (h : ¬ (48 ≤ (m.s[k].toNat : Int) ∧ (m.s[k].toNat : Int) ≤ 57)) : okM m = false := by
  cases e : okM m
  · rfl
  · exact absurd (of_decide_eq_true (((okM_iff m).1 e).2.1 _ (List.getElem_mem hk))) h
theorem okM_t {m : Mn} (h1 : m.a = 1) (h : ¬ (m.s = [] ∧ m.b = false ∧ m.n = 0 ∧ m.d = 0)) : okM m = false := by
  cases e : okM m
  · rfl
  · exact absurd (((okM_iff m).1 e).2.2 h1) h
def FigJ (s : List UInt8) (j : Nat) : Prop := ∀ k (h : k < s.length), k < j → figB s[k] = true
theorem figJ_zero (s : List UInt8) : FigJ s 0 := fun k _ h => by omega
theorem figJ_succ {s : List UInt8} {j : Nat} (h : FigJ s j) (hj : j < s.length) (hf : 48 ≤ (s[j].toNat : Int) ∧ (s[j].toNat : Int) ≤ 57) : FigJ s (j + 1) := fun k hk hlt => by
  rcases Nat.lt_or_ge k j with h1 | h1
  · exact h k hk h1
  · obtain rfl : k = j := by omega
    exact decide_eq_true hf
theorem figJ_all {s : List UInt8} {j : Nat} (h : FigJ s j) (hj : s.length ≤ j) : ∀ x ∈ s, figB x = true := fun x hx => by
  obtain ⟨k, hk, rfl⟩ := List.getElem_of_mem hx
  exact h k hk (by omega)
theorem menuokS (m : Mn) (B : Bool) (hB : okM m = B) (w : World) : Calls Tryz.prog 96 #[mnV m] w fun e w' => e = .returned (.bool B) ∧ Below w.heap.size w w' := by
  obtain ⟨a, b, n, d, s⟩ := m
  obtain ⟨S, hS⟩ : ∃ S : ByteArray, (⟨s.toArray⟩ : ByteArray) = S := ⟨_, rfl⟩
  unfold mnV
  dsimp only
  rw [hS]
  have hsz := txt_size hS
  have HBT : Hid (∀ k (h : k < s.length), bt S k = (s[k].toNat : Int)) := txt_bt hS
  have HNIL : Hid ((S.toList = []) ↔ s = []) := txt_nil hS
  have HO := hq hB
  have HB : Hid (Below w.heap.size w (w.alloc (.cells #[.int .i64 a, .bool b, .int .i64 n, .int .i64 d, .string S] 34))) := alM _ _
  have HP : Hid ((w.alloc (.cells #[.int .i64 a, .bool b, .int .i64 n, .int .i64 d, .string S] 34)).heap[w.heap.size]? = some (.cells #[.int .i64 a, .bool b, .int .i64 n, .int .i64 d, .string S] 34)) := heap_new w _
  have p := box5_cells HP.out
  have hbt := get_bt S
  clear hS hB
  go_enter Tryz.func96, Tryz.ntmps96
  obtain ⟨B1, hB1⟩ : ∃ B1, decide (1 ≤ a ∧ a ≤ 4) = B1 := ⟨_, rfl⟩
  have H1 := hq hB1
  clear hB1
  go_wp2_with fail
  refine (inS 1 4 a B1 H1.out _).mono ?_
  rintro e W ⟨rfl, hW⟩
  have HB1 : Hid (Below w.heap.size w W) := by rw [hW]; exact HB.out
  have HP1 : Hid (W.heap[w.heap.size]? = some (.cells #[.int .i64 a, .bool b, .int .i64 n, .int .i64 d, .string S] 34)) := by rw [hW]; exact HP.out
  have p1 := box5_cells HP1.out
  clear hW HB HP p
  cases B1
  · obtain rfl : false = B := by rw [← HO.out]; exact (okM_at (of_decide_eq_false H1.out)).symm
    go_wp2
    go_ret
    exact ⟨rfl, HB1.out⟩
  have h1 := of_decide_eq_true H1.out
  clear H1
  by_cases h2 : 0 ≤ n ∧ n ≤ 9999
  case neg =>
    obtain rfl : false = B := by rw [← HO.out]; exact (okM_n h2).symm
    go_wp2_with fail
    refine (inS 0 9999 n false (decide_eq_false h2) _).mono ?_
    rintro e w1 ⟨rfl, hw⟩
    obtain rfl : W = w1 := hw.symm
    go_wp2
    go_ret
    exact ⟨rfl, HB1.out⟩
  go_wp2_with fail
  refine (inS 0 9999 n true (decide_eq_true h2) _).mono ?_
  rintro e w1 ⟨rfl, hw⟩
  obtain rfl : W = w1 := hw.symm
  by_cases h3 : 0 ≤ d ∧ d ≤ 9999
  case neg =>
    obtain rfl : false = B := by rw [← HO.out]; exact (okM_d h3).symm
    go_wp2_with fail
    refine (inS 0 9999 d false (decide_eq_false h3) _).mono ?_
    rintro e w1 ⟨rfl, hw⟩
    obtain rfl : W = w1 := hw.symm
    go_wp2
    go_ret
    exact ⟨rfl, HB1.out⟩
  go_wp2_with fail
  refine (inS 0 9999 d true (decide_eq_true h3) _).mono ?_
  rintro e w1 ⟨rfl, hw⟩
  obtain rfl : W = w1 := hw.symm
  by_cases h4 : S.size ≤ 4
  case neg =>
    obtain rfl : false = B := by rw [← HO.out]; exact (okM_l (by show ¬ s.length ≤ 4; omega)).symm
    have h4' : (4 : Int) < S.size := by omega
    go_wp2
    go_ret
    exact ⟨rfl, HB1.out⟩
  have h4' : ¬ (4 : Int) < S.size := by omega
  have HA : Hid ((1 ≤ a ∧ a ≤ 4) ∧ (0 ≤ n ∧ n ≤ 9999) ∧ (0 ≤ d ∧ d ≤ 9999) ∧ s.length ≤ 4) := ⟨h1, h2, h3, by omega⟩
  clear h1 h2 h3
  go_wp2
  go_loopg [3] S.size (fun gk i wr => ∃ j : Nat, j + gk = S.size ∧ i = .int .i64 j ∧ Hid (FigJ s j) ∧ wr = W)
  case atStart => exact ⟨0, by omega, rfl, figJ_zero s, rfl⟩
  case round =>
    obtain ⟨j, hj, rfl, HI, rfl⟩ := hrel
    by_cases hlt : j < S.size
    · have hjl : j < s.length := by omega
      have hb0 := HBT.out j hjl
      have b0 := bt_nonneg S j
      have b1 := bt_le S j
      by_cases hf : 48 ≤ bt S j ∧ bt S j ≤ 57
      · have HI' : Hid (FigJ s (j + 1)) := figJ_succ HI.out hjl (by rw [← hb0]; exact hf)
        have f0 : ¬ bt S j < 48 := by omega
        have f1 : ¬ 57 < bt S j := by omega
        clear hb0 hf HI hjl
        go_wp2
        go_roundg (gk - 1)
        case measure => omega
        case rel => exact ⟨j + 1, by omega, by go_num, HI', rfl⟩
      · obtain rfl : false = B := by rw [← HO.out]; exact (okM_f (m := ⟨a, b, n, d, s⟩) hjl (by show ¬ (48 ≤ (s[j].toNat : Int) ∧ (s[j].toNat : Int) ≤ 57); rw [← hb0]; exact hf)).symm
        clear hb0 HI hjl
        by_cases f0 : bt S j < 48
        · go_wp2
          go_ret
          exact ⟨rfl, HB1.out⟩
        · have f1 : 57 < bt S j := by omega
          go_wp2
          go_ret
          exact ⟨rfl, HB1.out⟩
    · have HF : Hid (∀ x ∈ s, figB x = true) := figJ_all HI.out (by omega)
      clear HI
      by_cases a1 : a = 1
      case neg =>
        obtain rfl : true = B := by rw [← HO.out]; exact ((okM_iff _).2 ⟨HA.out, HF.out, fun e => absurd e a1⟩).symm
        have q1 : (a != 1) = true := by simpa using a1
        go_wp2
        go_ret
        exact ⟨rfl, HB1.out⟩
      subst a1
      by_cases hs : S.toList = []
      case neg =>
        obtain rfl : false = B := by rw [← HO.out]; exact (okM_t rfl (fun h => hs (HNIL.out.2 h.1))).symm
        go_wp2
        go_ret
        exact ⟨rfl, HB1.out⟩
      have HS : Hid (s = []) := HNIL.out.1 hs
      cases b
      case true =>
        obtain rfl : false = B := by rw [← HO.out]; exact (okM_t rfl (fun h => by cases h.2.1)).symm
        go_wp2
        go_ret
        exact ⟨rfl, HB1.out⟩
      by_cases hn : n = 0
      case neg =>
        obtain rfl : false = B := by rw [← HO.out]; exact (okM_t rfl (fun h => hn h.2.2.1)).symm
        have q3 : (n == 0) = false := by simpa using hn
        go_wp2
        go_ret
        exact ⟨rfl, HB1.out⟩
      by_cases hd : d = 0
      case neg =>
        obtain rfl : false = B := by rw [← HO.out]; exact (okM_t rfl (fun h => hd h.2.2.2)).symm
        subst hn
        have q4 : (d == 0) = false := by simpa using hd
        go_wp2
        go_ret
        exact ⟨rfl, HB1.out⟩
      obtain rfl : true = B := by rw [← HO.out]; exact ((okM_iff _).2 ⟨HA.out, HF.out, fun e => ⟨HS.out, rfl, hn, hd⟩⟩).symm
      subst hn
      subst hd
      go_wp2
      go_ret
      exact ⟨rfl, HB1.out⟩
def numJ (s : List UInt8) (j : Nat) : Int := numF (s.take j)
theorem numJ_succ {s : List UInt8} {j : Nat} (h : j < s.length) : numJ s (j + 1) = 10 * numJ s j + (s[j].toNat : Int) - 48 := by
  unfold numJ numF
  rw [← List.take_append_getElem h, List.foldl_append]
  rfl
theorem numJ_bd {s : List UInt8} (hf : ∀ x ∈ s, figB x = true) (hl : s.length ≤ 4) (j : Nat) : 0 ≤ numJ s j ∧ numJ s j ≤ 9999 := numF_bd (fun x hx => hf x (List.mem_of_mem_take hx)) (by simp; omega)
theorem numS (s : List UInt8) (z : Int) (hz : numF s = z) (hf : ∀ x ∈ s, figB x = true) (hl : s.length ≤ 4) (w : World) : Calls Tryz.prog 155 #[.string ⟨s.toArray⟩] w fun e w' => e = .returned (.int .i64 z) ∧ w' = w := by
  obtain ⟨S, hS⟩ : ∃ S : ByteArray, (⟨s.toArray⟩ : ByteArray) = S := ⟨_, rfl⟩
  rw [hS]
  have hsz := txt_size hS
  have HBT : Hid (∀ k (h : k < s.length), bt S k = (s[k].toNat : Int)) := txt_bt hS
  have HF := hq hf
  have HZ := hq hz
  have hbt := get_bt S
  clear hS hf hz
  go_enter Tryz.func155, Tryz.ntmps155
  go_wp2
  go_loopg [3, 4] S.size (fun gk v i wr => ∃ (j : Nat) (t : Int), j + gk = S.size ∧ v = .int .i64 t ∧ i = .int .i64 j ∧ Hid (t = numJ s j) ∧ wr = w)
  case atStart => exact ⟨0, 0, by omega, rfl, rfl, rfl, rfl⟩
  case round =>
    obtain ⟨j, t, hj, rfl, rfl, HT, rfl⟩ := hrel
    by_cases hlt : j < S.size
    · have hjl : j < s.length := by omega
      have hb0 := HBT.out j hjl
      have hfj : 48 ≤ bt S j ∧ bt S j ≤ 57 := by rw [hb0]; exact of_decide_eq_true (HF.out _ (List.getElem_mem hjl))
      have ht := numJ_bd HF.out hl j
      rw [← HT.out] at ht
      obtain ⟨u, hu⟩ : ∃ u, 10 * t + (bt S j - 48) = u := ⟨_, rfl⟩
      have HU : Hid (u = numJ s (j + 1)) := by show _ = _; rw [numJ_succ hjl, ← HT.out, ← hb0]; omega
      have q1 : IntKind.u8.wrap (bt S j - 48) = bt S j - 48 := by rw [IntKind.wrap_u8]; omega
      have q2 : IntKind.i64.wrap (10 * t) = 10 * t := wrap_in (by omega) (by omega)
      have q2' : wrap64 (10 * t) = 10 * t := wrap64_in (by omega) (by omega)
      have q3 : IntKind.i64.wrap (bt S j - 48) = bt S j - 48 := wrap_in (by omega) (by omega)
      have q4 : IntKind.i64.wrap (10 * t + (bt S j - 48)) = u := by rw [hu]; exact wrap_in (by omega) (by omega)
      have q5 : wrap64 u = u := wrap64_in (by omega) (by omega)
      clear hb0 hfj ht HT hjl
      go_wp2
      go_roundg (gk - 1)
      case measure => omega
      case rel => exact ⟨j + 1, u, by omega, (by first | rfl | rw [q5]), by go_num, HU, rfl⟩
    · have HE : Hid (t = z) := by show _ = _; rw [HT.out, ← HZ.out]; unfold numJ; rw [List.take_of_length_le (by omega)]
      clear HT
      go_wp2
      go_ret
      exact ⟨by rw [HE.out]; rfl, rfl⟩
theorem topS (m : Mn) (key : Int) (r : Pr) (hr : topM m key = r) (w : World) : Calls Tryz.prog 154 #[mnV m, .int .i64 key] w fun e w' => e = .returned (.tuple #[mnV r.m, ordV r.k r.n r.d r.v, .bool r.t]) ∧ Below w.heap.size w w' := by
  obtain ⟨a, b, n, d, s⟩ := m
  obtain ⟨S, hS⟩ : ∃ S : ByteArray, (⟨s.toArray⟩ : ByteArray) = S := ⟨_, rfl⟩
  obtain ⟨h1, h2, h3, h4, h5⟩ := box3m w (.cells #[.int .i64 a, .bool b, .int .i64 n, .int .i64 d, .string S] 34) (.cells #[.int .i64 0, .bool false, .int .i64 0, .int .i64 0, .string ⟨#[]⟩] 34) (oB 0 0 0 0)
  have HP0 := hq h1
  have HZ0 := hq h2
  have HO0 := hq h3
  have HB0 := hq h4
  have p0 := box5_cells h1
  clear h1 h2 h3 h4 h5
  unfold mnV ordV
  dsimp only
  rw [hS]
  have HR := hq hr
  clear hr
  go_enter Tryz.func154, Tryz.ntmps154
  by_cases k98 : key = 98
  · obtain rfl : noP ⟨2, false, 0, 0, []⟩ = r := by rw [← HR.out]; unfold topM; simp [k98]
    clear HR
    subst k98
    dsimp only [noP]
    try rw [hS]
    clear hS
    go_upto_region 3 with fail
    go_wp2_with (refine listStoreM rfl rfl _ _ _ rfl rfl (w.heap.size + 1) (2) (false) (0) (0) (⟨#[]⟩) rfl rfl HZ0.out ?_)
    intro w8 hput
    have HB8 := hq (hput.2.2.2 _ _ (Nat.le_succ _) HB0.out)
    have HO8 := hq (hput.far HO0.out (by omega))
    have HZ8 := hq hput.1
    clear hput
    go_wp2_with (refine listStoreO rfl rfl _ _ _ rfl rfl (w.heap.size + 2) (0) (0) (0) (0) rfl rfl HO8.out ?_)
    intro w9 hput
    have HB9 := hq (hput.2.2.2 _ _ (by omega) HB8.out)
    have zz := box5_cells (hput.far HZ8.out (by omega))
    have yy := box4_cells hput.1
    clear hput HB8 HO8 HZ8
    go_wp2
    refine bodyPost_ret (v := .tuple #[.agg #[.int .i64 2, .bool false, .int .i64 0, .int .i64 0, .string ⟨#[]⟩], .agg #[.int .i64 0, .int .i64 0, .int .i64 0, .int .i64 0], .bool false]) (by simp only [results, Tryz.results154]; simp [go_sem, zz, yy]) rfl ⟨rfl, HB9.out⟩
  have q98 : (key == 98) = false := by simpa using k98
  by_cases k111 : key = 111
  · obtain rfl : noP ⟨4, true, 0, 0, []⟩ = r := by rw [← HR.out]; unfold topM; simp [k111]
    clear HR
    subst k111
    dsimp only [noP]
    try rw [hS]
    clear hS
    go_upto_region 5 with fail
    go_wp2_with (refine listStoreM rfl rfl _ _ _ rfl rfl (w.heap.size + 1) (4) (true) (0) (0) (⟨#[]⟩) rfl rfl HZ0.out ?_)
    intro w8 hput
    have HB8 := hq (hput.2.2.2 _ _ (Nat.le_succ _) HB0.out)
    have HO8 := hq (hput.far HO0.out (by omega))
    have HZ8 := hq hput.1
    clear hput
    go_wp2_with (refine listStoreO rfl rfl _ _ _ rfl rfl (w.heap.size + 2) (0) (0) (0) (0) rfl rfl HO8.out ?_)
    intro w9 hput
    have HB9 := hq (hput.2.2.2 _ _ (by omega) HB8.out)
    have zz := box5_cells (hput.far HZ8.out (by omega))
    have yy := box4_cells hput.1
    clear hput HB8 HO8 HZ8
    go_wp2
    refine bodyPost_ret (v := .tuple #[.agg #[.int .i64 4, .bool true, .int .i64 0, .int .i64 0, .string ⟨#[]⟩], .agg #[.int .i64 0, .int .i64 0, .int .i64 0, .int .i64 0], .bool false]) (by simp only [results, Tryz.results154]; simp [go_sem, zz, yy]) rfl ⟨rfl, HB9.out⟩
  have q111 : (key == 111) = false := by simpa using k111
  by_cases k112 : key = 112
  · obtain rfl : ⟨⟨a, b, n, d, s⟩, 3, 0, 0, 0, true⟩ = r := by rw [← HR.out]; unfold topM; simp [k112]
    clear HR
    subst k112
    dsimp only [noP]
    try rw [hS]
    clear hS
    go_upto_region 7 with fail
    go_wp2_with (refine listStoreM rfl rfl _ _ _ rfl rfl (w.heap.size + 1) (a) (b) (n) (d) (S) rfl rfl HZ0.out ?_)
    intro w8 hput
    have HB8 := hq (hput.2.2.2 _ _ (Nat.le_succ _) HB0.out)
    have HO8 := hq (hput.far HO0.out (by omega))
    have HZ8 := hq hput.1
    clear hput
    go_wp2_with (refine listStoreO rfl rfl _ _ _ rfl rfl (w.heap.size + 2) (3) (0) (0) (0) rfl rfl HO8.out ?_)
    intro w9 hput
    have HB9 := hq (hput.2.2.2 _ _ (by omega) HB8.out)
    have zz := box5_cells (hput.far HZ8.out (by omega))
    have yy := box4_cells hput.1
    clear hput HB8 HO8 HZ8
    go_wp2
    refine bodyPost_ret (v := .tuple #[.agg #[.int .i64 a, .bool b, .int .i64 n, .int .i64 d, .string S], .agg #[.int .i64 3, .int .i64 0, .int .i64 0, .int .i64 0], .bool true]) (by simp only [results, Tryz.results154]; simp [go_sem, zz, yy]) rfl ⟨rfl, HB9.out⟩
  have q112 : (key == 112) = false := by simpa using k112
  by_cases k103 : key = 103
  · obtain rfl : ⟨⟨a, b, n, d, s⟩, 4, 0, 0, 0, true⟩ = r := by rw [← HR.out]; unfold topM; simp [k103]
    clear HR
    subst k103
    dsimp only [noP]
    try rw [hS]
    clear hS
    go_upto_region 9 with fail
    go_wp2_with (refine listStoreM rfl rfl _ _ _ rfl rfl (w.heap.size + 1) (a) (b) (n) (d) (S) rfl rfl HZ0.out ?_)
    intro w8 hput
    have HB8 := hq (hput.2.2.2 _ _ (Nat.le_succ _) HB0.out)
    have HO8 := hq (hput.far HO0.out (by omega))
    have HZ8 := hq hput.1
    clear hput
    go_wp2_with (refine listStoreO rfl rfl _ _ _ rfl rfl (w.heap.size + 2) (4) (0) (0) (0) rfl rfl HO8.out ?_)
    intro w9 hput
    have HB9 := hq (hput.2.2.2 _ _ (by omega) HB8.out)
    have zz := box5_cells (hput.far HZ8.out (by omega))
    have yy := box4_cells hput.1
    clear hput HB8 HO8 HZ8
    go_wp2
    refine bodyPost_ret (v := .tuple #[.agg #[.int .i64 a, .bool b, .int .i64 n, .int .i64 d, .string S], .agg #[.int .i64 4, .int .i64 0, .int .i64 0, .int .i64 0], .bool true]) (by simp only [results, Tryz.results154]; simp [go_sem, zz, yy]) rfl ⟨rfl, HB9.out⟩
  have q103 : (key == 103) = false := by simpa using k103
  by_cases k115 : key = 115
  · obtain rfl : ⟨⟨a, b, n, d, s⟩, 5, 0, 0, 0, true⟩ = r := by rw [← HR.out]; unfold topM; simp [k115]
    clear HR
    subst k115
    dsimp only [noP]
    try rw [hS]
    clear hS
    go_upto_region 11 with fail
    go_wp2_with (refine listStoreM rfl rfl _ _ _ rfl rfl (w.heap.size + 1) (a) (b) (n) (d) (S) rfl rfl HZ0.out ?_)
    intro w8 hput
    have HB8 := hq (hput.2.2.2 _ _ (Nat.le_succ _) HB0.out)
    have HO8 := hq (hput.far HO0.out (by omega))
    have HZ8 := hq hput.1
    clear hput
    go_wp2_with (refine listStoreO rfl rfl _ _ _ rfl rfl (w.heap.size + 2) (5) (0) (0) (0) rfl rfl HO8.out ?_)
    intro w9 hput
    have HB9 := hq (hput.2.2.2 _ _ (by omega) HB8.out)
    have zz := box5_cells (hput.far HZ8.out (by omega))
    have yy := box4_cells hput.1
    clear hput HB8 HO8 HZ8
    go_wp2
    refine bodyPost_ret (v := .tuple #[.agg #[.int .i64 a, .bool b, .int .i64 n, .int .i64 d, .string S], .agg #[.int .i64 5, .int .i64 0, .int .i64 0, .int .i64 0], .bool true]) (by simp only [results, Tryz.results154]; simp [go_sem, zz, yy]) rfl ⟨rfl, HB9.out⟩
  have q115 : (key == 115) = false := by simpa using k115
  by_cases k120 : key = 120
  · obtain rfl : ⟨⟨a, b, n, d, s⟩, 6, 0, 0, 0, true⟩ = r := by rw [← HR.out]; unfold topM; simp [k120]
    clear HR
    subst k120
    dsimp only [noP]
    try rw [hS]
    clear hS
    go_upto_region 13 with fail
    go_wp2_with (refine listStoreM rfl rfl _ _ _ rfl rfl (w.heap.size + 1) (a) (b) (n) (d) (S) rfl rfl HZ0.out ?_)
    intro w8 hput
    have HB8 := hq (hput.2.2.2 _ _ (Nat.le_succ _) HB0.out)
    have HO8 := hq (hput.far HO0.out (by omega))
    have HZ8 := hq hput.1
    clear hput
    go_wp2_with (refine listStoreO rfl rfl _ _ _ rfl rfl (w.heap.size + 2) (6) (0) (0) (0) rfl rfl HO8.out ?_)
    intro w9 hput
    have HB9 := hq (hput.2.2.2 _ _ (by omega) HB8.out)
    have zz := box5_cells (hput.far HZ8.out (by omega))
    have yy := box4_cells hput.1
    clear hput HB8 HO8 HZ8
    go_wp2
    refine bodyPost_ret (v := .tuple #[.agg #[.int .i64 a, .bool b, .int .i64 n, .int .i64 d, .string S], .agg #[.int .i64 6, .int .i64 0, .int .i64 0, .int .i64 0], .bool true]) (by simp only [results, Tryz.results154]; simp [go_sem, zz, yy]) rfl ⟨rfl, HB9.out⟩
  have q120 : (key == 120) = false := by simpa using k120
  obtain rfl : noP ⟨a, b, n, d, s⟩ = r := by rw [← HR.out]; unfold topM; simp [k98, k111, k112, k103, k115, k120]
  clear HR k98 k111 k112 k103 k115 k120
  dsimp only [noP]
  rw [hS]
  clear hS
  go_upto_region 14 with fail
  go_wp2_with (refine listStoreM rfl rfl _ _ _ rfl rfl (w.heap.size + 1) (a) (b) (n) (d) (S) rfl rfl HZ0.out ?_)
  intro w8 hput
  have HB8 := hq (hput.2.2.2 _ _ (Nat.le_succ _) HB0.out)
  have HO8 := hq (hput.far HO0.out (by omega))
  have HZ8 := hq hput.1
  clear hput
  go_wp2_with (refine listStoreO rfl rfl _ _ _ rfl rfl (w.heap.size + 2) (0) (0) (0) (0) rfl rfl HO8.out ?_)
  intro w9 hput
  have HB9 := hq (hput.2.2.2 _ _ (by omega) HB8.out)
  have zz := box5_cells (hput.far HZ8.out (by omega))
  have yy := box4_cells hput.1
  clear hput HB8 HO8 HZ8
  go_wp2
  refine bodyPost_ret (v := .tuple #[.agg #[.int .i64 a, .bool b, .int .i64 n, .int .i64 d, .string S], .agg #[.int .i64 0, .int .i64 0, .int .i64 0, .int .i64 0], .bool false]) (by simp only [results, Tryz.results154]; simp [go_sem, zz, yy]) rfl ⟨rfl, HB9.out⟩
theorem al_at (w : World) (o : Obj) {k : Nat} (h : w.heap.size = k) : (w.alloc o).heap[k]? = some o := by subst h; exact heap_new w o
theorem set_rowP {w : World} {k : Nat} {T : TypeId} {a : Array Value} (h : w.heap[k]? = some (.cells a T)) (i : Nat) (x : Value) : (w.setCell ⟨k, i, none⟩ x).heap[k]? = some (.cells (a.setIfInBounds i x) T) := heap_setCell_same w k i _ _ x h
theorem le2 (n : Nat) : n ≤ n + 1 + 1 := by omega
theorem listStoreP {ops : Array Oper} {rest : List Oper} {o : Oper} {a : Act} {Q : Exit → Act → World → Prop} {w : World} (hgd : o.guard = none) (hd : o.dst = none) (x y : Operand) (ty : TypeId) (ho : o.op = .store ty x y) (hty : ty = 29)
    (g : Nat) (z0 z1 z2 z3 z4 z5 z6 z7 : Int) (hx : a.eval x = .pointer (some ⟨g, 0, none⟩)) (hy : a.eval y = PV z0 z1 z2 z3 z4 z5 z6 z7)
    {u0 u1 u2 u3 u4 u5 u6 u7 : Value} (hg : w.heap[g]? = some (.cells #[u0, u1, u2, u3, u4, u5, u6, u7] 29))
    (h : ∀ w' : World, w'.heap[g]? = some (PB z0 z1 z2 z3 z4 z5 z6 z7) → (∀ k, k ≠ g → w'.heap[k]? = w.heap[k]?) → w'.heap.size = w.heap.size → (∀ B W, B ≤ g → Below B W w → Below B W w') → wpList Tryz.prog ops Q rest a w') : wpList Tryz.prog ops Q (o :: rest) a w := by
  subst hty
  refine wpList_store_rowTo hgd _ x y ho hd g _ hx hy _ _ hg (by kernel_rfl) rfl (by kernel_rfl) ?_
  refine h _ (setRow_heap w g _ _ _ _ hg) (fun k hk => setRow_other w g k _ hk) (setRow_size w g _) (fun B W hB hb => ?_)
  exact ⟨hb.os, hb.tape, hb.output, by rw [setRow_size]; exact hb.size, fun k hk => by rw [setRow_other w g k _ (by omega)]; exact hb.block k hk⟩
theorem storeC_run {w : World} {g i : Nat} {z : Int} {cs : Array Value} {T : TypeId} (hg : w.heap[g]? = some (.cells cs T)) (hi : i < cs.size) : (Instr.storeAt 3 (.pointer (some ⟨g, i, none⟩)) (.int .i64 z)).run Tryz.prog w = .ok () (w.setCell ⟨g, i, none⟩ (.int .i64 z)) := by
  have k1 : w.cell? ⟨g, i, none⟩ = some cs[i] := by simp [World.cell?, hg, hi]
  have k2 : w.frozen? ⟨g, i, none⟩ = false := by simp [World.frozen?, hg]
  simp [go_sem, Instr.storeAt, k1, k2]
theorem storeR_run {w : World} {g : Nat} {z0 z1 z2 : Int} {u0 u1 u2 u3 u4 u5 u6 u7 : Value} {T : TypeId} (hg : w.heap[g]? = some (.cells #[u0, u1, u2, u3, u4, u5, u6, u7] T)) :
    (Instr.storeAt 27 (.pointer (some ⟨g, 1, none⟩)) (.agg #[.int .i64 z0, .int .i64 z1, .int .i64 z2])).run Tryz.prog w = .ok () (((w.setCell ⟨g, 1, none⟩ (.int .i64 z0)).setCell ⟨g, 2, none⟩ (.int .i64 z1)).setCell ⟨g, 3, none⟩ (.int .i64 z2)) := by
  have k := box8_cells hg
  simp [go_sem, Instr.storeAt, k]
theorem listStoreC {ops : Array Oper} {rest : List Oper} {o : Oper} {a : Act} {Q : Exit → Act → World → Prop} {w : World} (hgd : o.guard = none) (hd : o.dst = none) (x y : Operand) (ty : TypeId) (ho : o.op = .store ty x y) (hty : ty = 3)
    (g i : Nat) (z : Int) (hx : a.eval x = .pointer (some ⟨g, i, none⟩)) (hy : a.eval y = .int .i64 z)
    {cs : Array Value} {T : TypeId} (hg : w.heap[g]? = some (.cells cs T)) (hi : i < cs.size)
    (h : ∀ w' : World, w'.heap[g]? = some (.cells (cs.setIfInBounds i (.int .i64 z)) T) → (∀ k, k ≠ g → w'.heap[k]? = w.heap[k]?) → w'.heap.size = w.heap.size → (∀ B W, B ≤ g → Below B W w → Below B W w') → wpList Tryz.prog ops Q rest a w') : wpList Tryz.prog ops Q (o :: rest) a w := by
  subst hty
  refine wpList_plain hgd fun _ hK => ?_
  unfold Oper.wp
  simp only [execOp, ho, hx, hy, Sem.run_bind, storeC_run hg hi, Result.andThen, Sem.run_pure]
  exact hK _ _ (by rw [hd]; exact h _ (set_rowP hg i _) (fun k hk => Below.heap_setCell _ _ _ _ hk) (by simp) (fun B W hB hb => hb.setCell hB _))
theorem listStoreR {ops : Array Oper} {rest : List Oper} {o : Oper} {a : Act} {Q : Exit → Act → World → Prop} {w : World} (hgd : o.guard = none) (hd : o.dst = none) (x y : Operand) (ty : TypeId) (ho : o.op = .store ty x y) (hty : ty = 27)
    (g : Nat) (z0 z1 z2 : Int) (hx : a.eval x = .pointer (some ⟨g, 1, none⟩)) (hy : a.eval y = .agg #[.int .i64 z0, .int .i64 z1, .int .i64 z2])
    {u0 u1 u2 u3 u4 u5 u6 u7 : Value} {T : TypeId} (hg : w.heap[g]? = some (.cells #[u0, u1, u2, u3, u4, u5, u6, u7] T))
    (h : ∀ w' : World, w'.heap[g]? = some (.cells #[u0, .int .i64 z0, .int .i64 z1, .int .i64 z2, u4, u5, u6, u7] T) → (∀ k, k ≠ g → w'.heap[k]? = w.heap[k]?) → w'.heap.size = w.heap.size → (∀ B W, B ≤ g → Below B W w → Below B W w') → wpList Tryz.prog ops Q rest a w') : wpList Tryz.prog ops Q (o :: rest) a w := by
  subst hty
  refine wpList_plain hgd fun _ hK => ?_
  unfold Oper.wp
  simp only [execOp, ho, hx, hy, Sem.run_bind, storeR_run hg, Result.andThen, Sem.run_pure]
  exact hK _ _ (by rw [hd]; exact h _ (set_rowP (set_rowP (set_rowP hg 1 _) 2 _) 3 _) (fun k hk => (Below.heap_setCell _ _ _ _ hk).trans ((Below.heap_setCell _ _ _ _ hk).trans (Below.heap_setCell _ _ _ _ hk))) (by simp) (fun B W hB hb => ((hb.setCell hB _).setCell hB _).setCell hB _))
theorem t4s (w : World) (P O Z : Obj) : Hid (Below w.heap.size w (((w.alloc P).alloc O).alloc Z)) ∧ Hid ((((w.alloc P).alloc O).alloc Z).heap[w.heap.size]? = some P) ∧ Hid ((((w.alloc P).alloc O).alloc Z).heap[w.heap.size + 1]? = some O) ∧ Hid ((((w.alloc P).alloc O).alloc Z).heap[w.heap.size + 1 + 1]? = some Z) :=
  ⟨bel_on (Nat.le_refl _) (bel_on (Nat.le_refl _) (alP _ _) (alP _ _)) (alP _ _), row_on (row_on (heap_new w _) (alP _ _)) (alP _ _), row_on (al_at (w.alloc P) _ (by simp)) (alP _ _), al_at ((w.alloc P).alloc O) _ (by simp)⟩
theorem t4o {w W W' : World} {P O Z : Obj} (h1 : Hid (Below w.heap.size w W)) (h2 : Hid (W.heap[w.heap.size]? = some P)) (h3 : Hid (W.heap[w.heap.size + 1]? = some O)) (h4 : Hid (W.heap[w.heap.size + 1 + 1]? = some Z)) (hb : Below W.heap.size W W') : Hid (Below w.heap.size w W') ∧ Hid (W'.heap[w.heap.size]? = some P) ∧ Hid (W'.heap[w.heap.size + 1]? = some O) ∧ Hid (W'.heap[w.heap.size + 1 + 1]? = some Z) :=
  ⟨bq h1 hb, row_on h2.out hb, row_on h3.out hb, row_on h4.out hb⟩
theorem t4a {w W : World} {P O Z : Obj} (h1 : Hid (Below w.heap.size w W)) (h2 : Hid (W.heap[w.heap.size]? = some P)) (h3 : Hid (W.heap[w.heap.size + 1]? = some O)) (h4 : Hid (W.heap[w.heap.size + 1 + 1]? = some Z)) (Y : Obj) : Hid ((W.alloc Y).heap[W.heap.size]? = some Y) ∧ Hid ((W.alloc Y).heap[w.heap.size]? = some P) ∧ Hid ((W.alloc Y).heap[w.heap.size + 1]? = some O) ∧ Hid ((W.alloc Y).heap[w.heap.size + 1 + 1]? = some Z) ∧ Hid (Below w.heap.size w (W.alloc Y)) :=
  ⟨heap_new W _, row_on h2.out (alP _ _), row_on h3.out (alP _ _), row_on h4.out (alP _ _), bq h1 (alP _ _)⟩
theorem t4p {w W W' : World} {P O Z : Obj} {k : Nat} (h2 : Hid (W.heap[w.heap.size]? = some P)) (h3 : Hid (W.heap[w.heap.size + 1]? = some O)) (h4 : Hid (W.heap[w.heap.size + 1 + 1]? = some Z)) (hl : w.heap.size + 1 + 1 < k) (ho : ∀ g, g ≠ k → W'.heap[g]? = W.heap[g]?) : Hid (W'.heap[w.heap.size]? = some P) ∧ Hid (W'.heap[w.heap.size + 1]? = some O) ∧ Hid (W'.heap[w.heap.size + 1 + 1]? = some Z) :=
  ⟨(ho _ (by omega)).trans h2.out, (ho _ (by omega)).trans h3.out, (ho _ (by omega)).trans h4.out⟩
theorem kpS {s n d r l b g k : Int} (h : Pm.ok ⟨s, n, d, r, l, b, g, k⟩) : Hid (∀ w, Calls Tryz.prog 94 #[PV s n d r l b g k] w fun e w' => e = .returned (.bool true) ∧ Below w.heap.size w w') := fun w => pumpokS ⟨s, n, d, r, l, b, g, k⟩ true ⟨fun _ => h, fun _ => rfl⟩ w
theorem koS {K N D V : Int} (h : OrdR K N D V) : Hid (∀ w, Calls Tryz.prog 106 #[.agg #[.int .i64 K, .int .i64 N, .int .i64 D, .int .i64 V]] w fun e w' => e = .returned (.bool true) ∧ Below w.heap.size w w') := fun w => ordokS K N D V true ⟨fun _ => h, fun _ => rfl⟩ w
theorem takeS_p (s n d r l b g k K N D V : Int) (hp : ¬ Pm.ok ⟨s, n, d, r, l, b, g, k⟩) (w : World) : Calls Tryz.prog 52 #[PV s n d r l b g k, .agg #[.int .i64 K, .int .i64 N, .int .i64 D, .int .i64 V]] w fun e w' => e = .returned (.tuple #[(Pm.take ⟨s, n, d, r, l, b, g, k⟩ K N D V).1.V, .bool (Pm.take ⟨s, n, d, r, l, b, g, k⟩ K N D V).2]) ∧ Below w.heap.size w w' := by
  have HT : Hid (Pm.take ⟨s, n, d, r, l, b, g, k⟩ K N D V = (⟨s, n, d, r, l, b, g, k⟩, false)) := by show _ = _; unfold Pm.take; rw [ok_no hp]; simp
  have KP : Hid (∀ w, Calls Tryz.prog 94 #[PV s n d r l b g k] w fun e w' => e = .returned (.bool false) ∧ Below w.heap.size w w') := fun w => pumpokS ⟨s, n, d, r, l, b, g, k⟩ false ⟨fun h => (by cases h), fun h => absurd h hp⟩ w
  clear hp
  have HB0 : Hid (Below w.heap.size w (((w.alloc (PB s n d r l b g k)).alloc (oB K N D V)).alloc (PB 0 0 0 0 0 0 0 0))) := bel_on (Nat.le_refl _) (bel_on (Nat.le_refl _) (alP _ _) (alP _ _)) (alP _ _)
  have HP0 : Hid ((((w.alloc (PB s n d r l b g k)).alloc (oB K N D V)).alloc (PB 0 0 0 0 0 0 0 0)).heap[w.heap.size]? = some (PB s n d r l b g k)) := row_on (row_on (heap_new w _) (alP _ _)) (alP _ _)
  have HO0 : Hid ((((w.alloc (PB s n d r l b g k)).alloc (oB K N D V)).alloc (PB 0 0 0 0 0 0 0 0)).heap[w.heap.size + 1]? = some (oB K N D V)) := row_on (al_at (w.alloc (PB s n d r l b g k)) _ (by simp)) (alP _ _)
  have HZ0 : Hid ((((w.alloc (PB s n d r l b g k)).alloc (oB K N D V)).alloc (PB 0 0 0 0 0 0 0 0)).heap[w.heap.size + 1 + 1]? = some (PB 0 0 0 0 0 0 0 0)) := al_at ((w.alloc (PB s n d r l b g k)).alloc (oB K N D V)) _ (by simp)
  have p0 := box8_cells HP0.out
  have o0 := box4_cells HO0.out
  go_enter Tryz.func52, Tryz.ntmps52
  go_wp2_with fail
  refine (KP.out _).mono ?_
  rintro e w1 ⟨rfl, hb1⟩
  have HB1 := bq HB0 hb1
  have HP1 := rq HP0 hb1
  have HO1 := rq HO0 hb1
  have HZ1 := rq HZ0 hb1
  have p1 := box8_cells HP1.out
  have o1 := box4_cells HO1.out
  have z1 := box8_cells HZ1.out
  clear hb1 HB0 HP0 HO0 HZ0 p0 o0
  go_wp2_with (refine listStoreP rfl rfl _ _ _ rfl rfl (w.heap.size + 1 + 1) (s) (n) (d) (r) (l) (b) (g) (k) rfl rfl HZ1.out ?_)
  intro w9 hr9 ho9 hs9 hB9
  have HF := hq (hB9 _ _ (le2 _) HB1.out)
  have HRf := hq hr9
  clear ho9 hs9 hB9 hr9
  obtain ⟨⟨q0, q1, q2, q3, q4, q5, q6, q7⟩, _⟩ := box8_cells HRf.out
  go_wp2
  refine bodyPost_ret (v := .tuple #[PV s n d r l b g k, .bool false]) (by simp only [results, Tryz.results52]; simp [go_sem, q0, q1, q2, q3, q4, q5, q6, q7]) rfl ⟨by rw [HT.out]; rfl, HF.out⟩
theorem takeS_o (s n d r l b g k K N D V : Int) (hp : Pm.ok ⟨s, n, d, r, l, b, g, k⟩) (ho : ¬ OrdR K N D V) (w : World) : Calls Tryz.prog 52 #[PV s n d r l b g k, .agg #[.int .i64 K, .int .i64 N, .int .i64 D, .int .i64 V]] w fun e w' => e = .returned (.tuple #[(Pm.take ⟨s, n, d, r, l, b, g, k⟩ K N D V).1.V, .bool (Pm.take ⟨s, n, d, r, l, b, g, k⟩ K N D V).2]) ∧ Below w.heap.size w w' := by
  have HT : Hid (Pm.take ⟨s, n, d, r, l, b, g, k⟩ K N D V = (⟨s, n, d, r, l, b, g, k⟩, false)) := by show _ = _; unfold Pm.take; rw [or_no ho]; simp
  have KP : Hid (∀ w, Calls Tryz.prog 94 #[PV s n d r l b g k] w fun e w' => e = .returned (.bool true) ∧ Below w.heap.size w w') := fun w => pumpokS ⟨s, n, d, r, l, b, g, k⟩ true ⟨fun _ => hp, fun _ => rfl⟩ w
  have KO : Hid (∀ w, Calls Tryz.prog 106 #[.agg #[.int .i64 K, .int .i64 N, .int .i64 D, .int .i64 V]] w fun e w' => e = .returned (.bool false) ∧ Below w.heap.size w w') := fun w => ordokS K N D V false ⟨fun h => (by cases h), fun h => absurd h ho⟩ w
  clear hp ho
  have HB0 : Hid (Below w.heap.size w (((w.alloc (PB s n d r l b g k)).alloc (oB K N D V)).alloc (PB 0 0 0 0 0 0 0 0))) := bel_on (Nat.le_refl _) (bel_on (Nat.le_refl _) (alP _ _) (alP _ _)) (alP _ _)
  have HP0 : Hid ((((w.alloc (PB s n d r l b g k)).alloc (oB K N D V)).alloc (PB 0 0 0 0 0 0 0 0)).heap[w.heap.size]? = some (PB s n d r l b g k)) := row_on (row_on (heap_new w _) (alP _ _)) (alP _ _)
  have HO0 : Hid ((((w.alloc (PB s n d r l b g k)).alloc (oB K N D V)).alloc (PB 0 0 0 0 0 0 0 0)).heap[w.heap.size + 1]? = some (oB K N D V)) := row_on (al_at (w.alloc (PB s n d r l b g k)) _ (by simp)) (alP _ _)
  have HZ0 : Hid ((((w.alloc (PB s n d r l b g k)).alloc (oB K N D V)).alloc (PB 0 0 0 0 0 0 0 0)).heap[w.heap.size + 1 + 1]? = some (PB 0 0 0 0 0 0 0 0)) := al_at ((w.alloc (PB s n d r l b g k)).alloc (oB K N D V)) _ (by simp)
  have p0 := box8_cells HP0.out
  have o0 := box4_cells HO0.out
  go_enter Tryz.func52, Tryz.ntmps52
  go_wp2_with fail
  refine (KP.out _).mono ?_
  rintro e w1 ⟨rfl, hb1⟩
  have HB1 := bq HB0 hb1
  have HP1 := rq HP0 hb1
  have HO1 := rq HO0 hb1
  have HZ1 := rq HZ0 hb1
  have p1 := box8_cells HP1.out
  have o1 := box4_cells HO1.out
  have z1 := box8_cells HZ1.out
  clear hb1 HB0 HP0 HO0 HZ0 p0 o0
  go_wp2_with fail
  refine (KO.out _).mono ?_
  rintro e w2 ⟨rfl, hb2⟩
  have HB2 := bq HB1 hb2
  have HP2 := rq HP1 hb2
  have HO2 := rq HO1 hb2
  have HZ2 := rq HZ1 hb2
  have p2 := box8_cells HP2.out
  have o2 := box4_cells HO2.out
  have z2 := box8_cells HZ2.out
  have hl2 := row_lt HZ2.out
  clear hb2 HB1 HP1 HO1 HZ1 p1 o1 z1
  go_wp2_with (refine listStoreP rfl rfl _ _ _ rfl rfl (w.heap.size + 1 + 1) (s) (n) (d) (r) (l) (b) (g) (k) rfl rfl HZ2.out ?_)
  intro w9 hr9 ho9 hs9 hB9
  have HF := hq (hB9 _ _ (le2 _) HB2.out)
  have HRf := hq hr9
  clear ho9 hs9 hB9 hr9
  obtain ⟨⟨q0, q1, q2, q3, q4, q5, q6, q7⟩, _⟩ := box8_cells HRf.out
  go_wp2
  refine bodyPost_ret (v := .tuple #[PV s n d r l b g k, .bool false]) (by simp only [results, Tryz.results52]; simp [go_sem, q0, q1, q2, q3, q4, q5, q6, q7]) rfl ⟨by rw [HT.out]; rfl, HF.out⟩
end Go.Proofs.YtfhhnelffldggaaGreatDoor
