/-
  Rows of a device: stores into parts of it.
-/
import Derived.Test.YtckeffccoghgeaaDoorDvS
import Derived.Test.YtckeffccoghgeaaDoorMnA
import Derived.Deep.MidRow
namespace Go.Proofs.YtckeffccoghgeaaDoor
open Go.RowKit Go.PlainAid
set_option linter.unusedVariables false
set_option linter.unusedSimpArgs false

/-- a device's row -/
abbrev DRow (p : Pm) (a : Option Addr) (n cap : Nat) (al : Int) (m : Mn) (ta : Option Addr) (tn tc : Nat) (rf : Int) : Array Value := #[.int .i64 p.s, .int .i64 p.n, .int .i64 p.d, .int .i64 p.r, .int .i64 p.l, .int .i64 p.b, .int .i64 p.g, .int .i64 p.k, .slice a n cap, .int .i64 al, .int .i64 m.a, .bool m.b, .int .i64 m.n, .int .i64 m.d, .string ⟨m.s.toArray⟩, .slice ta tn tc, .int .i64 rf]
abbrev DObj (p : Pm) (a : Option Addr) (n cap : Nat) (al : Int) (m : Mn) (ta : Option Addr) (tn tc : Nat) (rf : Int) : Obj := .cells #[.int .i64 p.s, .int .i64 p.n, .int .i64 p.d, .int .i64 p.r, .int .i64 p.l, .int .i64 p.b, .int .i64 p.g, .int .i64 p.k, .slice a n cap, .int .i64 al, .int .i64 m.a, .bool m.b, .int .i64 m.n, .int .i64 m.d, .string ⟨m.s.toArray⟩, .slice ta tn tc, .int .i64 rf] 43
def setsA : Array Value → Nat → List Value → Array Value
  | cs, _, [] => cs
  | cs, o, v :: r => setsA (cs.setIfInBounds o v) (o + 1) r
theorem PutM.trans {w w1 w2 : World} {g : Nat} {o1 o2 : Obj} (h : PutM w w1 g o1) (k : PutM w1 w2 g o2) : PutM w w2 g o2 :=
  ⟨k.1, fun i hi => (k.2.1 i hi).trans (h.2.1 i hi), k.2.2.1.trans h.2.2.1, fun B W hB hb => k.2.2.2 B W hB (h.2.2.2 B W hB hb)⟩
theorem putM_mid {T : TypeId} {g : Nat} : ∀ (vs : List Value) (o : Nat) (cs : Array Value) (w : World), w.heap[g]? = some (.cells cs T) → PutM w (w.setCells g o vs) g (.cells (setsA cs o vs) T)
  | [], o, cs, w, h => ⟨h, fun _ _ => rfl, rfl, fun _ _ _ hb => hb⟩
  | v :: r, o, cs, w, h => by
    have h1 : PutM w (w.setCell ⟨g, o, none⟩ v) g (.cells (cs.setIfInBounds o v) T) := putM_set h
    exact h1.trans (putM_mid r (o + 1) _ _ h1.1)
/-- a value of several cells stored into a row -/
theorem listStoreW {ops : Array Oper} {rest : List Oper} {o : Oper} {a : Act} {Q : Exit → Act → World → Prop} {w : World} (hgd : o.guard = none) (hd : o.dst = none) (x y : Operand) (ty : TypeId) (ho : o.op = .store ty x y)
    (g off : Nat) (vs : Array Value) (hx : a.eval x = .pointer (some ⟨g, off, none⟩)) (hy : a.eval y = .agg vs)
    {cs : Array Value} {T : TypeId} (hg : w.heap[g]? = some (.cells cs T)) (hin : off + vs.size ≤ cs.size) (hi : (Tryd.prog.info? ty).map (·.size) = some vs.size) (h1 : vs.all (·.oneCell') = true)
    (h : ∀ w' : World, PutM w w' g (.cells (setsA cs off vs.toList) T) → wpList Tryd.prog ops Q rest a w') : wpList Tryd.prog ops Q (o :: rest) a w := by
  refine wpList_store_mid hgd ty x y ho g off vs hx hy (fun j hj => ?_) hi h1 ?_
  · have hb : off + j < cs.size := by omega
    refine ⟨?_, ?_⟩
    · simp [World.cell?, hg, hb]
    · simp [World.frozen?, hg]
  · rw [hd]
    exact h _ (putM_mid _ _ _ _ hg)
/-- a whole device stored into a row -/
theorem listStoreD {ops : Array Oper} {rest : List Oper} {o : Oper} {a : Act} {Q : Exit → Act → World → Prop} {w : World} (hgd : o.guard = none) (hd : o.dst = none) (x y : Operand) (ty : TypeId) (ho : o.op = .store ty x y) (hty : ty = 43)
    (g : Nat) (vs : Array Value) (hx : a.eval x = .pointer (some ⟨g, 0, none⟩)) (hy : a.eval y = .agg vs) (hv : vs.size = 17) (h1 : vs.all (·.oneCell') = true)
    {cs : Array Value} (hg : w.heap[g]? = some (.cells cs 43)) (hs : cs.size = 17)
    (h : ∀ w' : World, PutM w w' g (.cells vs 43) → wpList Tryd.prog ops Q rest a w') : wpList Tryd.prog ops Q (o :: rest) a w := by
  subst hty
  refine wpList_store_rowTo hgd _ x y ho hd g _ hx hy _ _ hg (by rw [hv]; kernel_rfl) (by rw [hs, hv]) h1 ?_
  exact h _ (putM_row hg)
theorem own_putM {w w' : World} {B e z n k : Nat} {v : Value} {xs : List Value} {o : Obj} (h : w.ownsRow B e z v n xs) (hp : PutM w w' k o) (hne : ∀ g, v.ownBlock = some g → g ≠ k) : w'.ownsRow B e z v n xs := by
  refine ⟨h.1, ?_⟩
  rcases h.2 with h2 | ⟨g', cap, cur, e, h3, h4, h5⟩
  · exact .inl h2
  · subst e
    exact .inr ⟨_, _, _, rfl, h3, (hp.2.1 g' (hne g' rfl)).trans h4, h5⟩
theorem own_grownM {w w' : World} {B e z n : Nat} {v : Value} {xs : List Value} {r : Option Nat} (h : w.ownsRow B e z v n xs) (hg : w.grownBy w' r) (hne : ∀ g, v.ownBlock = some g → r ≠ some g) : w'.ownsRow B e z v n xs := by
  refine ⟨h.1, ?_⟩
  rcases h.2 with h2 | ⟨g', cap, cur, e, h3, h4, h5⟩
  · exact .inl h2
  · subst e
    exact .inr ⟨_, _, _, rfl, h3, (hg.block g' (row_lt h4) (fun e => hne g' rfl e.symm)).trans h4, h5⟩
theorem row_grown {w w' : World} {k : Nat} {r : Option Nat} {o : Obj} (h : w.heap[k]? = some o) (hg : w.grownBy w' r) (hne : r ≠ some k) : w'.heap[k]? = some o := (hg.block k (row_lt h) (fun e => hne e.symm)).trans h
theorem sets_Pump (u0 u1 u2 u3 u4 u5 u6 u7 u8 u9 u10 u11 u12 u13 u14 u15 u16 v0 v1 v2 v3 v4 v5 v6 v7 : Value) : setsA #[u0, u1, u2, u3, u4, u5, u6, u7, u8, u9, u10, u11, u12, u13, u14, u15, u16] 0 [v0, v1, v2, v3, v4, v5, v6, v7] = #[v0, v1, v2, v3, v4, v5, v6, v7, u8, u9, u10, u11, u12, u13, u14, u15, u16] := by simp [setsA]
/-- a pump stored into a device's row -/
theorem listPump {ops : Array Oper} {rest : List Oper} {o : Oper} {a : Act} {Q : Exit → Act → World → Prop} {w : World} (hgd : o.guard = none) (hd : o.dst = none) (x y : Operand) (ty : TypeId) (ho : o.op = .store ty x y)
    (g : Nat) (v0 v1 v2 v3 v4 v5 v6 v7 : Value) (hx : a.eval x = .pointer (some ⟨g, 0, none⟩)) (hy : a.eval y = .agg #[v0, v1, v2, v3, v4, v5, v6, v7])
    {u0 u1 u2 u3 u4 u5 u6 u7 u8 u9 u10 u11 u12 u13 u14 u15 u16 : Value} {T : TypeId} (hg : w.heap[g]? = some (.cells #[u0, u1, u2, u3, u4, u5, u6, u7, u8, u9, u10, u11, u12, u13, u14, u15, u16] T)) (hi : (Tryd.prog.info? ty).map (·.size) = some 8) (h1 : (#[v0, v1, v2, v3, v4, v5, v6, v7] : Array Value).all (·.oneCell') = true)
    (h : ∀ w' : World, PutM w w' g (.cells #[v0, v1, v2, v3, v4, v5, v6, v7, u8, u9, u10, u11, u12, u13, u14, u15, u16] T) → wpList Tryd.prog ops Q rest a w') : wpList Tryd.prog ops Q (o :: rest) a w := by
  refine listStoreW hgd hd x y ty ho g 0 #[v0, v1, v2, v3, v4, v5, v6, v7] hx hy hg (by simp) (by rw [hi]; rfl) h1 fun w' hp => h w' ?_
  have e := sets_Pump u0 u1 u2 u3 u4 u5 u6 u7 u8 u9 u10 u11 u12 u13 u14 u15 u16 v0 v1 v2 v3 v4 v5 v6 v7
  rw [← e]
  exact hp
theorem sets_Guard (u0 u1 u2 u3 u4 u5 u6 u7 u8 u9 u10 u11 u12 u13 u14 u15 u16 v0 v1 : Value) : setsA #[u0, u1, u2, u3, u4, u5, u6, u7, u8, u9, u10, u11, u12, u13, u14, u15, u16] 8 [v0, v1] = #[u0, u1, u2, u3, u4, u5, u6, u7, v0, v1, u10, u11, u12, u13, u14, u15, u16] := by simp [setsA]
/-- a guard stored into a device's row -/
theorem listGuard {ops : Array Oper} {rest : List Oper} {o : Oper} {a : Act} {Q : Exit → Act → World → Prop} {w : World} (hgd : o.guard = none) (hd : o.dst = none) (x y : Operand) (ty : TypeId) (ho : o.op = .store ty x y)
    (g : Nat) (v0 v1 : Value) (hx : a.eval x = .pointer (some ⟨g, 8, none⟩)) (hy : a.eval y = .agg #[v0, v1])
    {u0 u1 u2 u3 u4 u5 u6 u7 u8 u9 u10 u11 u12 u13 u14 u15 u16 : Value} {T : TypeId} (hg : w.heap[g]? = some (.cells #[u0, u1, u2, u3, u4, u5, u6, u7, u8, u9, u10, u11, u12, u13, u14, u15, u16] T)) (hi : (Tryd.prog.info? ty).map (·.size) = some 2) (h1 : (#[v0, v1] : Array Value).all (·.oneCell') = true)
    (h : ∀ w' : World, PutM w w' g (.cells #[u0, u1, u2, u3, u4, u5, u6, u7, v0, v1, u10, u11, u12, u13, u14, u15, u16] T) → wpList Tryd.prog ops Q rest a w') : wpList Tryd.prog ops Q (o :: rest) a w := by
  refine listStoreW hgd hd x y ty ho g 8 #[v0, v1] hx hy hg (by simp) (by rw [hi]; rfl) h1 fun w' hp => h w' ?_
  have e := sets_Guard u0 u1 u2 u3 u4 u5 u6 u7 u8 u9 u10 u11 u12 u13 u14 u15 u16 v0 v1
  rw [← e]
  exact hp
theorem sets_Menu (u0 u1 u2 u3 u4 u5 u6 u7 u8 u9 u10 u11 u12 u13 u14 u15 u16 v0 v1 v2 v3 v4 : Value) : setsA #[u0, u1, u2, u3, u4, u5, u6, u7, u8, u9, u10, u11, u12, u13, u14, u15, u16] 10 [v0, v1, v2, v3, v4] = #[u0, u1, u2, u3, u4, u5, u6, u7, u8, u9, v0, v1, v2, v3, v4, u15, u16] := by simp [setsA]
/-- a menu stored into a device's row -/
theorem listMenu {ops : Array Oper} {rest : List Oper} {o : Oper} {a : Act} {Q : Exit → Act → World → Prop} {w : World} (hgd : o.guard = none) (hd : o.dst = none) (x y : Operand) (ty : TypeId) (ho : o.op = .store ty x y)
    (g : Nat) (v0 v1 v2 v3 v4 : Value) (hx : a.eval x = .pointer (some ⟨g, 10, none⟩)) (hy : a.eval y = .agg #[v0, v1, v2, v3, v4])
    {u0 u1 u2 u3 u4 u5 u6 u7 u8 u9 u10 u11 u12 u13 u14 u15 u16 : Value} {T : TypeId} (hg : w.heap[g]? = some (.cells #[u0, u1, u2, u3, u4, u5, u6, u7, u8, u9, u10, u11, u12, u13, u14, u15, u16] T)) (hi : (Tryd.prog.info? ty).map (·.size) = some 5) (h1 : (#[v0, v1, v2, v3, v4] : Array Value).all (·.oneCell') = true)
    (h : ∀ w' : World, PutM w w' g (.cells #[u0, u1, u2, u3, u4, u5, u6, u7, u8, u9, v0, v1, v2, v3, v4, u15, u16] T) → wpList Tryd.prog ops Q rest a w') : wpList Tryd.prog ops Q (o :: rest) a w := by
  refine listStoreW hgd hd x y ty ho g 10 #[v0, v1, v2, v3, v4] hx hy hg (by simp) (by rw [hi]; rfl) h1 fun w' hp => h w' ?_
  have e := sets_Menu u0 u1 u2 u3 u4 u5 u6 u7 u8 u9 u10 u11 u12 u13 u14 u15 u16 v0 v1 v2 v3 v4
  rw [← e]
  exact hp
theorem storeL_run {w : World} {g i n c : Nat} {q : Option Addr} {cs : Array Value} {T : TypeId} (hg : w.heap[g]? = some (.cells cs T)) (hi : i < cs.size) : (Instr.storeAt 41 (.pointer (some ⟨g, i, none⟩)) (.slice q n c)).run Tryd.prog w = .ok () (w.setCell ⟨g, i, none⟩ (.slice q n c)) := by
  have k1 : w.cell? ⟨g, i, none⟩ = some cs[i] := by simp [World.cell?, hg, hi]
  have k2 : w.frozen? ⟨g, i, none⟩ = false := by simp [World.frozen?, hg]
  simp [go_sem, Instr.storeAt, k1, k2]
/-- a list stored into a row -/
theorem listStoreU {ops : Array Oper} {rest : List Oper} {o : Oper} {a : Act} {Q : Exit → Act → World → Prop} {w : World} (hgd : o.guard = none) (hd : o.dst = none) (x y : Operand) (ty : TypeId) (ho : o.op = .store ty x y) (hty : ty = 41)
    (g i n c : Nat) (q : Option Addr) (hx : a.eval x = .pointer (some ⟨g, i, none⟩)) (hy : a.eval y = .slice q n c)
    {cs : Array Value} {T : TypeId} (hg : w.heap[g]? = some (.cells cs T)) (hi : i < cs.size)
    (h : ∀ w' : World, PutM w w' g (.cells (cs.setIfInBounds i (.slice q n c)) T) → wpList Tryd.prog ops Q rest a w') : wpList Tryd.prog ops Q (o :: rest) a w := by
  subst hty
  refine wpList_plain hgd fun _ hK => ?_
  unfold Oper.wp
  simp only [execOp, ho, hx, hy, Sem.run_bind, storeL_run hg hi, Result.andThen, Sem.run_pure]
  exact hK _ _ (by rw [hd]; exact h _ (putM_set hg))
/-- a whole struct that is loaded, as an operation by itself -/
theorem exec_load_row {o : Oper} {a : Act} {w : World} (ty : TypeId) (x : Operand) (ho : o.op = .load ty x)
    (g : Nat) (hx : a.eval x = .pointer (some ⟨g, 0, none⟩)) (t : TypeId) (cs : Array Value) (fr : Nat × Nat) (hg : w.heap[g]? = some (.cells cs t fr))
    (hu : (match Tryd.prog.underlying ty with | some (.struct _) | some (.array _ _) => true | _ => false) = true) (hi : (Tryd.prog.info? ty).map (·.size) = some cs.size) :
    (execOp a.eval o).run Tryd.prog w = .ok (.value (.agg cs)) w := by
  cases e : Tryd.prog.underlying ty with
  | none => rw [e] at hu; cases hu
  | some d =>
    rw [e] at hu
    have hr : (loadVar ty ⟨g, 0, none⟩).run Tryd.prog w = .ok (.agg cs) w := run_loadVar_row w g t ty cs fr d hg e (by cases d <;> first | rfl | (cases hu)) hi
    unfold execOp
    simp only [ho, hx, Instr.loadAt, Instr.sureAddr, Sem.run_bind, Sem.run_pure, Result.andThen_ok, hr]
/-- two rows that stay while a region is walked -/
def KD (w w' : World) (i j : Nat) (o p : Obj) : Prop := w'.heap[i]? = some o ∧ w'.heap[j]? = some p ∧ Below w.heap.size w w'
theorem KD.on {w w' w2 : World} {i j : Nat} {o p : Obj} (h : KD w w' i j o p) (hb : Below w'.heap.size w' w2) : KD w w2 i j o p := ⟨row_on h.1 hb, row_on h.2.1 hb, bel_on (Nat.le_refl _) h.2.2 hb⟩
end Go.Proofs.YtckeffccoghgeaaDoor
