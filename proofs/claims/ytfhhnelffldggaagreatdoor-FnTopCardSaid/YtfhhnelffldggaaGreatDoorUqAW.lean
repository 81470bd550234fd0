/-
  Rows of a device: stores into parts of it.
-/
import Derived.Test.YtfhhnelffldggaaGreatDoorUqAC
import Derived.Test.YtfhhnelffldggaaGreatDoorUqAU
import Derived.Test.YtfhhnelffldggaaGreatDoorUqAG
import Derived.Deep.MidRow
import Derived.Test.YtfhhnelffldggaaGreatDoorUqAK
import Derived.Test.YtfhhnelffldggaaGreatDoorUqAV
import Derived.Test.YtfhhnelffldggaaGreatDoorUqAI
set_option maxRecDepth 100000
set_option maxHeartbeats 16000000
namespace Go.Proofs.YtfhhnelffldggaaGreatDoor
open Go.RowKit Go.PlainAid
set_option linter.unusedVariables false
set_option linter.unusedSimpArgs false
abbrev DRow (p : Pm) (a : Option Addr) (n cap : Nat) (al : Int) (m : Mn) (ta : Option Addr) (tn tc : Nat) (rf : Int) : Array Value := (dR p (.slice a n cap) al m (.slice ta tn tc) rf)
def setsA : Array Value → Nat → List Value → Array Value
 | cs, _, [] => cs
 | cs, o, v :: r => setsA (cs.setIfInBounds o v) (o + 1) r
theorem PutM.trans {w w1 w2 : World} {g : Nat} {o1 o2 : Obj} (h : PutM w w1 g o1) (k : PutM w1 w2 g o2) : PutM w w2 g o2 :=
 ⟨k.1, fun i hi => (k.2.1 i hi).trans (h.2.1 i hi), k.2.2.1.trans h.2.2.1, fun B W hB hb => k.2.2.2 B W hB (h.2.2.2 B W hB hb)⟩
theorem putM_mid {T : TypeId} {g : Nat} : ∀ (vs : List Value) (o : Nat) (cs : Array Value) (w : World), w.heap[g]? = some (.cells cs T) → PutM w (w.setCells g o vs) g (.cells (setsA cs o vs) T)
 | [], o, cs, w, h => ⟨h, fun _ _ => rfl, rfl, fun _ _ _ hb => hb⟩
 | v :: r, o, cs, w, h => by
  have h1 : PutM w (w.setCell ⟨g, o, none⟩ v) g (.cells (cs.setIfInBounds o v) T) := putM_set h
  exact h1.trans (putM_mid r (o + 1) _ _ h1.1)
theorem listStoreW {ops : Array Oper} {rest : List Oper} {o : Oper} {a : Act} {Q : Exit → Act → World → Prop} {w : World} (hgd : o.guard = none) (hd : o.dst = none) (x y : Operand) (ty : TypeId) (ho : o.op = .store ty x y)
  (g off : Nat) (vs : Array Value) (hx : a.eval x = .pointer (some ⟨g, off, none⟩)) (hy : a.eval y = .agg vs)
  {cs : Array Value} {T : TypeId} (hg : w.heap[g]? = some (.cells cs T)) (hin : off + vs.size ≤ cs.size) (hi : (Tryz.prog.info? ty).map (·.size) = some vs.size) (h1 : vs.all (·.oneCell') = true)
  (h : ∀ w' : World, PutM w w' g (.cells (setsA cs off vs.toList) T) → wpList Tryz.prog ops Q rest a w') : wpList Tryz.prog ops Q (o :: rest) a w := by
 refine wpList_store_mid hgd ty x y ho g off vs hx hy (fun j hj => ?_) hi h1 ?_
 ·
  have hb : off + j < cs.size := by omega
  refine ⟨?_, ?_⟩
  · simp [World.cell?, hg, hb]
  · simp [World.frozen?, hg]
 ·
  rw [hd]
  exact h _ (putM_mid _ _ _ _ hg)
theorem listStoreD {ops : Array Oper} {rest : List Oper} {o : Oper} {a : Act} {Q : Exit → Act → World → Prop} {w : World} (hgd : o.guard = none) (hd : o.dst = none) (x y : Operand) (ty : TypeId) (ho : o.op = .store ty x y) (hty : ty = 37)
  (g : Nat) (vs : Array Value) (hx : a.eval x = .pointer (some ⟨g, 0, none⟩)) (hy : a.eval y = .agg vs) (hv : vs.size = 17) (h1 : vs.all (·.oneCell') = true)
  {cs : Array Value} (hg : w.heap[g]? = some (.cells cs 37)) (hs : cs.size = 17)
  (h : ∀ w' : World, PutM w w' g (.cells vs 37) → wpList Tryz.prog ops Q rest a w') : wpList Tryz.prog ops Q (o :: rest) a w := by
 subst hty
 refine wpList_store_rowTo hgd _ x y ho hd g _ hx hy _ _ hg (by rw [hv]; kernel_rfl) (by rw [hs, hv]) h1 ?_
 exact h _ (putM_row hg)
theorem own_putM {w w' : World} {B e z n k : Nat} {v : Value} {xs : List Value} {o : Obj} (h : w.ownsRow B e z v n xs) (hp : PutM w w' k o) (hne : ∀ g, v.ownBlock = some g → g ≠ k) : w'.ownsRow B e z v n xs := by
 refine ⟨h.1, ?_⟩
 rcases h.2 with h2 | ⟨g', cap, cur, e, h3, h4, h5⟩
 · exact .inl h2
 ·
  subst e
  exact .inr ⟨_, _, _, rfl, h3, (hp.2.1 g' (hne g' rfl)).trans h4, h5⟩
theorem own_grownM {w w' : World} {B e z n : Nat} {v : Value} {xs : List Value} {r : Option Nat} (h : w.ownsRow B e z v n xs) (hg : w.grownBy w' r) (hne : ∀ g, v.ownBlock = some g → r ≠ some g) : w'.ownsRow B e z v n xs := by
 refine ⟨h.1, ?_⟩
 rcases h.2 with h2 | ⟨g', cap, cur, e, h3, h4, h5⟩
 · exact .inl h2
 ·
  subst e
  exact .inr ⟨_, _, _, rfl, h3, (hg.block g' (row_lt h4) (fun e => hne g' rfl e.symm)).trans h4, h5⟩
theorem row_grown {w w' : World} {k : Nat} {r : Option Nat} {o : Obj} (h : w.heap[k]? = some o) (hg : w.grownBy w' r) (hne : r ≠ some k) : w'.heap[k]? = some o := (hg.block k (row_lt h) (fun e => hne e.symm)).trans h
theorem sets_Pump (u0 u1 u2 u3 u4 u5 u6 u7 u8 u9 u10 u11 u12 u13 u14 u15 u16 v0 v1 v2 v3 v4 v5 v6 v7 : Value) : setsA #[u0, u1, u2, u3, u4, u5, u6, u7, u8, u9, u10, u11, u12, u13, u14, u15, u16] 0 [v0, v1, v2, v3, v4, v5, v6, v7] = #[v0, v1, v2, v3, v4, v5, v6, v7, u8, u9, u10, u11, u12, u13, u14, u15, u16] := by simp [setsA]
theorem listPump {ops : Array Oper} {rest : List Oper} {o : Oper} {a : Act} {Q : Exit → Act → World → Prop} {w : World} (hgd : o.guard = none) (hd : o.dst = none) (x y : Operand) (ty : TypeId) (ho : o.op = .store ty x y)
  (g : Nat) (v0 v1 v2 v3 v4 v5 v6 v7 : Value) (hx : a.eval x = .pointer (some ⟨g, 0, none⟩)) (hy : a.eval y = .agg #[v0, v1, v2, v3, v4, v5, v6, v7])
  {u0 u1 u2 u3 u4 u5 u6 u7 u8 u9 u10 u11 u12 u13 u14 u15 u16 : Value} {T : TypeId} (hg : w.heap[g]? = some (.cells #[u0, u1, u2, u3, u4, u5, u6, u7, u8, u9, u10, u11, u12, u13, u14, u15, u16] T)) (hi : (Tryz.prog.info? ty).map (·.size) = some 8) (h1 : (#[v0, v1, v2, v3, v4, v5, v6, v7] : Array Value).all (·.oneCell') = true)
  (h : ∀ w' : World, PutM w w' g (.cells #[v0, v1, v2, v3, v4, v5, v6, v7, u8, u9, u10, u11, u12, u13, u14, u15, u16] T) → wpList Tryz.prog ops Q rest a w') : wpList Tryz.prog ops Q (o :: rest) a w := by
 refine listStoreW hgd hd x y ty ho g 0 #[v0, v1, v2, v3, v4, v5, v6, v7] hx hy hg (by simp) (by rw [hi]; rfl) h1 fun w' hp => h w' ?_
 have e := sets_Pump u0 u1 u2 u3 u4 u5 u6 u7 u8 u9 u10 u11 u12 u13 u14 u15 u16 v0 v1 v2 v3 v4 v5 v6 v7
 rw [← e]
 exact hp
theorem sets_Guard (u0 u1 u2 u3 u4 u5 u6 u7 u8 u9 u10 u11 u12 u13 u14 u15 u16 v0 v1 : Value) : setsA #[u0, u1, u2, u3, u4, u5, u6, u7, u8, u9, u10, u11, u12, u13, u14, u15, u16] 8 [v0, v1] = #[u0, u1, u2, u3, u4, u5, u6, u7, v0, v1, u10, u11, u12, u13, u14, u15, u16] := by simp [setsA]
theorem listGuard {ops : Array Oper} {rest : List Oper} {o : Oper} {a : Act} {Q : Exit → Act → World → Prop} {w : World} (hgd : o.guard = none) (hd : o.dst = none) (x y : Operand) (ty : TypeId) (ho : o.op = .store ty x y)
  (g : Nat) (v0 v1 : Value) (hx : a.eval x = .pointer (some ⟨g, 8, none⟩)) (hy : a.eval y = .agg #[v0, v1])
  {u0 u1 u2 u3 u4 u5 u6 u7 u8 u9 u10 u11 u12 u13 u14 u15 u16 : Value} {T : TypeId} (hg : w.heap[g]? = some (.cells #[u0, u1, u2, u3, u4, u5, u6, u7, u8, u9, u10, u11, u12, u13, u14, u15, u16] T)) (hi : (Tryz.prog.info? ty).map (·.size) = some 2) (h1 : (#[v0, v1] : Array Value).all (·.oneCell') = true)
  (h : ∀ w' : World, PutM w w' g (.cells #[u0, u1, u2, u3, u4, u5, u6, u7, v0, v1, u10, u11, u12, u13, u14, u15, u16] T) → wpList Tryz.prog ops Q rest a w') : wpList Tryz.prog ops Q (o :: rest) a w := by
 refine listStoreW hgd hd x y ty ho g 8 #[v0, v1] hx hy hg (by simp) (by rw [hi]; rfl) h1 fun w' hp => h w' ?_
 have e := sets_Guard u0 u1 u2 u3 u4 u5 u6 u7 u8 u9 u10 u11 u12 u13 u14 u15 u16 v0 v1
 rw [← e]
 exact hp
theorem sets_Menu (u0 u1 u2 u3 u4 u5 u6 u7 u8 u9 u10 u11 u12 u13 u14 u15 u16 v0 v1 v2 v3 v4 : Value) : setsA #[u0, u1, u2, u3, u4, u5, u6, u7, u8, u9, u10, u11, u12, u13, u14, u15, u16] 10 [v0, v1, v2, v3, v4] = #[u0, u1, u2, u3, u4, u5, u6, u7, u8, u9, v0, v1, v2, v3, v4, u15, u16] := by simp [setsA]
theorem listMenu {ops : Array Oper} {rest : List Oper} {o : Oper} {a : Act} {Q : Exit → Act → World → Prop} {w : World} (hgd : o.guard = none) (hd : o.dst = none) (x y : Operand) (ty : TypeId) (ho : o.op = .store ty x y)
  (g : Nat) (v0 v1 v2 v3 v4 : Value) (hx : a.eval x = .pointer (some ⟨g, 10, none⟩)) (hy : a.eval y = .agg #[v0, v1, v2, v3, v4])
  {u0 u1 u2 u3 u4 u5 u6 u7 u8 u9 u10 u11 u12 u13 u14 u15 u16 : Value} {T : TypeId} (hg : w.heap[g]? = some (.cells #[u0, u1, u2, u3, u4, u5, u6, u7, u8, u9, u10, u11, u12, u13, u14, u15, u16] T)) (hi : (Tryz.prog.info? ty).map (·.size) = some 5) (h1 : (#[v0, v1, v2, v3, v4] : Array Value).all (·.oneCell') = true)
  (h : ∀ w' : World, PutM w w' g (.cells #[u0, u1, u2, u3, u4, u5, u6, u7, u8, u9, v0, v1, v2, v3, v4, u15, u16] T) → wpList Tryz.prog ops Q rest a w') : wpList Tryz.prog ops Q (o :: rest) a w := by
 refine listStoreW hgd hd x y ty ho g 10 #[v0, v1, v2, v3, v4] hx hy hg (by simp) (by rw [hi]; rfl) h1 fun w' hp => h w' ?_
 have e := sets_Menu u0 u1 u2 u3 u4 u5 u6 u7 u8 u9 u10 u11 u12 u13 u14 u15 u16 v0 v1 v2 v3 v4
 rw [← e]
 exact hp
theorem storeL_run {w : World} {g i n c : Nat} {q : Option Addr} {cs : Array Value} {T : TypeId} (hg : w.heap[g]? = some (.cells cs T)) (hi : i < cs.size) : (Instr.storeAt 35 (.pointer (some ⟨g, i, none⟩)) (.slice q n c)).run Tryz.prog w = .ok () (w.setCell ⟨g, i, none⟩ (.slice q n c)) := by
 have k1 : w.cell? ⟨g, i, none⟩ = some cs[i] := by simp [World.cell?, hg, hi]
 have k2 : w.frozen? ⟨g, i, none⟩ = false := by simp [World.frozen?, hg]
 simp [go_sem, Instr.storeAt, k1, k2]
theorem listStoreU {ops : Array Oper} {rest : List Oper} {o : Oper} {a : Act} {Q : Exit → Act → World → Prop} {w : World} (hgd : o.guard = none) (hd : o.dst = none) (x y : Operand) (ty : TypeId) (ho : o.op = .store ty x y) (hty : ty = 35)
  (g i n c : Nat) (q : Option Addr) (hx : a.eval x = .pointer (some ⟨g, i, none⟩)) (hy : a.eval y = .slice q n c)
  {cs : Array Value} {T : TypeId} (hg : w.heap[g]? = some (.cells cs T)) (hi : i < cs.size)
  (h : ∀ w' : World, PutM w w' g (.cells (cs.setIfInBounds i (.slice q n c)) T) → wpList Tryz.prog ops Q rest a w') : wpList Tryz.prog ops Q (o :: rest) a w := by
 subst hty
 refine wpList_plain hgd fun _ hK => ?_
 unfold Oper.wp
 simp only [execOp, ho, hx, hy, Sem.run_bind, storeL_run hg hi, Result.andThen, Sem.run_pure]
 exact hK _ _ (by rw [hd]; exact h _ (putM_set hg))
theorem exec_load_row {o : Oper} {a : Act} {w : World} (ty : TypeId) (x : Operand) (ho : o.op = .load ty x)
  (g : Nat) (hx : a.eval x = .pointer (some ⟨g, 0, none⟩)) (t : TypeId) (cs : Array Value) (fr : Nat × Nat) (hg : w.heap[g]? = some (.cells cs t fr))
  (hu : (match Tryz.prog.underlying ty with | some (.struct _) | some (.array _ _) => true | _ => false) = true) (hi : (Tryz.prog.info? ty).map (·.size) = some cs.size) :
  (execOp a.eval o).run Tryz.prog w = .ok (.value (.agg cs)) w := by
 cases e : Tryz.prog.underlying ty with
 | none => rw [e] at hu; cases hu
 | some d =>
  rw [e] at hu
  have hr : (loadVar ty ⟨g, 0, none⟩).run Tryz.prog w = .ok (.agg cs) w := run_loadVar_row w g t ty cs fr d hg e (by cases d <;> first | rfl | (cases hu)) hi
  unfold execOp
  simp only [ho, hx, Instr.loadAt, Instr.sureAddr, Sem.run_bind, Sem.run_pure, Result.andThen_ok, hr]
def KD (w w' : World) (i j : Nat) (o p : Obj) : Prop := w'.heap[i]? = some o ∧ w'.heap[j]? = some p ∧ Below w.heap.size w w'
theorem KD.on {w w' w2 : World} {i j : Nat} {o p : Obj} (h : KD w w' i j o p) (hb : Below w'.heap.size w' w2) : KD w w2 i j o p := ⟨row_on h.1 hb, row_on h.2.1 hb, bel_on (Nat.le_refl _) h.2.2 hb⟩
theorem takeS (p : Pm) (K N D V : Int) (w : World) : Calls Tryz.prog 52 #[p.V, ordV K N D V] w fun e w' => e = .returned (.tuple #[(p.take K N D V).1.V, .bool (p.take K N D V).2]) ∧ Below w.heap.size w w' := by
 obtain ⟨s, n, d, r, l, b, g, k⟩ := p
 by_cases hp : Pm.ok ⟨s, n, d, r, l, b, g, k⟩
 ·
  by_cases ho : OrdR K N D V
  ·
   have hs : s = 0 ∨ s = 1 ∨ s = 2 ∨ s = 3 := by have := hp.1; dsimp only at this; omega
   have hb : 0 ≤ b := hp.2.2.2.2.2.1.1
   have hk : K = 1 ∨ K = 2 ∨ K = 3 ∨ K = 4 ∨ K = 5 ∨ K = 6 := by have := ho.bd; omega
   rcases hk with rfl | rfl | rfl | rfl | rfl | rfl
   ·
    rcases hs with rfl | rfl | rfl | rfl
    · exact takeS_1_0 n d r l b g k N D V hp ho w
    · exact takeS_1_1 n d r l b g k N D V hp ho w
    · exact takeS_1_2 n d r l b g k N D V hp ho w
    · exact takeS_1_3 n d r l b g k N D V hp ho w
   ·
    rcases hs with rfl | rfl | rfl | rfl
    · exact takeS_2_0 n d r l b g k N D V hp ho w
    ·
     by_cases hb0 : 0 < b
     · exact takeS_2_1b1 n d r l b g k N D V hp ho hb0 w
     ·
      obtain rfl : b = 0 := by omega
      exact takeS_2_1b0 n d r l g k N D V hp ho w
    ·
     by_cases hb0 : 0 < b
     · exact takeS_2_2b1 n d r l b g k N D V hp ho hb0 w
     ·
      obtain rfl : b = 0 := by omega
      exact takeS_2_2b0 n d r l g k N D V hp ho w
    · exact takeS_2_3 n d r l b g k N D V hp ho w
   ·
    rcases hs with rfl | rfl | rfl | rfl
    · exact takeS_3_0 n d r l b g k N D V hp ho w
    · exact takeS_3_1 n d r l b g k N D V hp ho w
    · exact takeS_3_2 n d r l b g k N D V hp ho w
    · exact takeS_3_3 n d r l b g k N D V hp ho w
   ·
    rcases hs with rfl | rfl | rfl | rfl
    · exact takeS_4_0 n d r l b g k N D V hp ho w
    · exact takeS_4_1 n d r l b g k N D V hp ho w
    · exact takeS_4_2 n d r l b g k N D V hp ho w
    · exact takeS_4_3 n d r l b g k N D V hp ho w
   ·
    rcases hs with rfl | rfl | rfl | rfl
    · exact takeS_5_0 n d r l b g k N D V hp ho w
    · exact takeS_5_1 n d r l b g k N D V hp ho w
    · exact takeS_5_2 n d r l b g k N D V hp ho w
    · exact takeS_5_3 n d r l b g k N D V hp ho w
   ·
    rcases hs with rfl | rfl | rfl | rfl
    · exact takeS_6_0 n d r l b g k N D V hp ho w
    · exact takeS_6_1 n d r l b g k N D V hp ho w
    · exact takeS_6_2 n d r l b g k N D V hp ho w
    · exact takeS_6_3 n d r l b g k N D V hp ho w
  · exact takeS_o s n d r l b g k K N D V hp ho w
 · exact takeS_p s n d r l b g k K N D V hp w
theorem aqSpGv1s {p : Prop} (h : p) : Hid p := h
theorem giveS_1 (n d r l b g k a m W c q B x L G g2 r' y : Int) (KP : Hid (∀ w, Calls Tryz.prog 94 #[PV 1 n d r l b g k] w fun e w' => e = .returned (.bool true) ∧ Below w.heap.size w w')) (KW : Hid (∀ w, Calls Tryz.prog 55 #[PV 1 n d r l b g k] w fun e w' => e = .returned (.int .i64 W) ∧ Below w.heap.size w w')) (KR : Hid (∀ w, Calls Tryz.prog 110 #[.agg #[.int .i64 n, .int .i64 d, .int .i64 r]] w fun e w' => e = .returned (.tuple #[.agg #[.int .i64 n, .int .i64 d, .int .i64 r'], .int .i64 y]) ∧ Below w.heap.size w w')) (hm : Hid (min a W = m)) (hq : Hid (min b 3 = q)) (hc : Hid (min m q = c)) (hg2 : Hid (min G 1000000000000 = g2)) (hneg : 0 ≤ m) (eB : IntKind.i64.wrap (b - c) = B) (eG : IntKind.i64.wrap (g + m) = G) (ex : IntKind.i64.wrap (m - c) = x) (eL : IntKind.i64.wrap (l - x) = L) (hL : ¬ L = 0) (HT : Hid (Pm.give ⟨1, n, d, r, l, b, g, k⟩ a = ⟨1, n, d, r', L, B, g2, k⟩)) (w : World) : Calls Tryz.prog 56 #[PV 1 n d r l b g k, .int .i64 a] w fun e w' => e = .returned (Pm.give ⟨1, n, d, r, l, b, g, k⟩ a).V ∧ Below w.heap.size w w' := by
 have qL : (L == 0) = false := by simpa using hL
 have HB0 : Hid (Below w.heap.size w ((w.alloc (PB 1 n d r l b g k)).alloc (PB 0 0 0 0 0 0 0 0))) := bel_on (Nat.le_refl _) (alP _ _) (alP _ _)
 have HP0 : Hid (((w.alloc (PB 1 n d r l b g k)).alloc (PB 0 0 0 0 0 0 0 0)).heap[w.heap.size]? = some (PB 1 n d r l b g k)) := row_on (heap_new w _) (alP _ _)
 have HZ0 : Hid (((w.alloc (PB 1 n d r l b g k)).alloc (PB 0 0 0 0 0 0 0 0)).heap[w.heap.size + 1]? = some (PB 0 0 0 0 0 0 0 0)) := al_at (w.alloc (PB 1 n d r l b g k)) _ (by simp)
 have p0 := box8_cells HP0.out
 go_enter Tryz.func56, Tryz.ntmps56
 go_wp2_with fail
 refine Calls.mono (KP.out _) ?_
 rintro e w1 ⟨rfl, hb1⟩
 have HB1 := bq HB0 hb1
 have HP1 := rq HP0 hb1
 have HZ1 := rq HZ0 hb1
 have p1 := box8_cells HP1.out
 clear hb1 HB0 HP0 HZ0 p0
 go_wp2_with fail
 refine Calls.mono (KW.out _) ?_
 rintro e w2 ⟨rfl, hb2⟩
 have HB2 := bq HB1 hb2
 have HP2 := rq HP1 hb2
 have HZ2 := rq HZ1 hb2
 have p2 := box8_cells HP2.out
 have hl2 := row_lt HZ2.out
 clear hb2 HB1 HP1 HZ1 p1 KP KW
 go_wp2_with fail
 refine (lessS a W m hm.out _).mono ?_
 rintro e wz ⟨rfl, hwz⟩
 subst hwz
 have HN2 : Hid ((wz.alloc (PB 0 0 0 0 0 0 0 0)).heap[wz.heap.size]? = some (PB 0 0 0 0 0 0 0 0)) := heap_new wz _
 have HPa : Hid ((wz.alloc (PB 0 0 0 0 0 0 0 0)).heap[w.heap.size]? = some (PB 1 n d r l b g k)) := row_on HP2.out (alP _ _)
 have HZa : Hid ((wz.alloc (PB 0 0 0 0 0 0 0 0)).heap[w.heap.size + 1]? = some (PB 0 0 0 0 0 0 0 0)) := row_on HZ2.out (alP _ _)
 have HBa : Hid (Below w.heap.size w (wz.alloc (PB 0 0 0 0 0 0 0 0))) := bel_on (Nat.le_refl _) HB2.out (alP _ _)
 go_upto_region 6 with fail
 go_wp2_with (refine listStoreP rfl rfl _ _ _ rfl rfl wz.heap.size (1) (n) (d) (r) (l) (b) (g) (k) rfl rfl HN2.out ?_)
 intro w3 hr3 ho3 hs3 hB3
 obtain ⟨Q, hQ⟩ : ∃ Q, wz.heap.size = Q := ⟨_, rfl⟩
 rw [hQ] at hr3 ho3 hB3 hl2
 have hl : w.heap.size ≤ Q := by omega
 have HB3 : Hid (Below w.heap.size w w3) := hB3 _ _ hl HBa.out
 have HN3 := aqSpGv1s hr3
 have HP3 := aqSpGv1s ((ho3 _ (by omega)).trans HPa.out)
 have HZ3 := aqSpGv1s ((ho3 _ (by omega)).trans HZa.out)
 have p3 := box8_cells HP3.out
 have n3 := box8_cells HN3.out
 rw [hQ]
 clear hr3 ho3 hs3 hB3 HN2 HPa HZa HBa HP2 HZ2 HB2 p2 hQ
 go_wp2_with fail
 refine Calls.mono (KR.out _) ?_
 rintro e w4 ⟨rfl, hb4⟩
 have HB4 := bq HB3 hb4
 have HN4 := rq HN3 hb4
 have HP4 := rq HP3 hb4
 have HZ4 := rq HZ3 hb4
 have p4 := box8_cells HP4.out
 have n4 := box8_cells HN4.out
 clear hb4 HB3 HN3 HP3 HZ3 p3 n3 KR
 go_wp2_with (refine listStoreR rfl rfl _ _ _ rfl rfl Q (n) (d) (r') rfl rfl HN4.out ?_)
 intro w5 hr ho hs hB
 have HB5 : Hid (Below w.heap.size w w5) := hB _ _ hl HB4.out
 have HN5 := aqSpGv1s hr
 have HP5 := aqSpGv1s ((ho _ (by omega)).trans HP4.out)
 have HZ5 := aqSpGv1s ((ho _ (by omega)).trans HZ4.out)
 have p5 := box8_cells HP5.out
 have n5 := box8_cells HN5.out
 clear hr ho hs hB HB4 HN4 HP4 HZ4 p4 n4
 go_wp2_with fail
 refine (lessS b 3 q hq.out _).mono ?_
 rintro e wz ⟨rfl, hwz⟩
 subst hwz
 go_wp2_with fail
 refine (lessS m q c hc.out _).mono ?_
 rintro e wz ⟨rfl, hwz⟩
 subst hwz
 go_upto_region 9 with fail
 go_wp2_with (refine listStoreC rfl rfl _ _ _ rfl rfl Q 5 (B) rfl rfl HN5.out (by simp) ?_)
 intro w6 hr ho hs hB
 have HB6 : Hid (Below w.heap.size w w6) := hB _ _ hl HB5.out
 have HN6 := aqSpGv1s hr
 have HP6 := aqSpGv1s ((ho _ (by omega)).trans HP5.out)
 have HZ6 := aqSpGv1s ((ho _ (by omega)).trans HZ5.out)
 have p6 := box8_cells HP6.out
 have n6 := box8_cells HN6.out
 clear hr ho hs hB HB5 HN5 HP5 HZ5 p5 n5
 go_upto_region 11 with fail
 go_wp2_with (refine listStoreC rfl rfl _ _ _ rfl rfl Q 4 (L) rfl rfl HN6.out (by simp) ?_)
 intro w7 hr ho hs hB
 have HB7 : Hid (Below w.heap.size w w7) := hB _ _ hl HB6.out
 have HN7 := aqSpGv1s hr
 have HP7 := aqSpGv1s ((ho _ (by omega)).trans HP6.out)
 have HZ7 := aqSpGv1s ((ho _ (by omega)).trans HZ6.out)
 have p7 := box8_cells HP7.out
 have n7 := box8_cells HN7.out
 clear hr ho hs hB HB6 HN6 HP6 HZ6 p6 n6
 go_wp2_with fail
 refine (lessS G 1000000000000 g2 hg2.out _).mono ?_
 rintro e wz ⟨rfl, hwz⟩
 subst hwz
 go_wp2_with (refine listStoreC rfl rfl _ _ _ rfl rfl Q 6 (g2) rfl rfl HN7.out (by simp) ?_)
 intro w8 hr ho hs hB
 have HB8 : Hid (Below w.heap.size w w8) := hB _ _ hl HB7.out
 have HN8 := aqSpGv1s hr
 have HP8 := aqSpGv1s ((ho _ (by omega)).trans HP7.out)
 have HZ8 := aqSpGv1s ((ho _ (by omega)).trans HZ7.out)
 have p8 := box8_cells HP8.out
 have n8 := box8_cells HN8.out
 clear hr ho hs hB HB7 HN7 HP7 HZ7 p7 n7
 go_upto_region 16 with fail
 go_wp2_with (refine listStoreP rfl rfl _ _ _ rfl rfl (w.heap.size + 1) (1) (n) (d) (r') (L) (B) (g2) (k) rfl rfl HZ8.out ?_)
 intro w99 hr9 ho9 hs9 hB9
 have HF := aqSpGv1s (hB9 _ _ (Nat.le_succ _) HB8.out)
 obtain ⟨⟨q0, q1, q2, q3, q4, q5, q6, q7⟩, _⟩ := box8_cells hr9
 clear ho9 hs9 hB9 hr9
 go_wp2
 refine bodyPost_ret (v := PV 1 n d r' L B g2 k) (by simp only [results, Tryz.results56]; simp [go_sem, q0, q1, q2, q3, q4, q5, q6, q7]) rfl ⟨by rw [HT.out]; rfl, HF.out⟩
theorem giveS_1z (n d r l b g k a m W c q B x G g2 r' y : Int) (KP : Hid (∀ w, Calls Tryz.prog 94 #[PV 1 n d r l b g k] w fun e w' => e = .returned (.bool true) ∧ Below w.heap.size w w')) (KW : Hid (∀ w, Calls Tryz.prog 55 #[PV 1 n d r l b g k] w fun e w' => e = .returned (.int .i64 W) ∧ Below w.heap.size w w')) (KR : Hid (∀ w, Calls Tryz.prog 110 #[.agg #[.int .i64 n, .int .i64 d, .int .i64 r]] w fun e w' => e = .returned (.tuple #[.agg #[.int .i64 n, .int .i64 d, .int .i64 r'], .int .i64 y]) ∧ Below w.heap.size w w')) (hm : Hid (min a W = m)) (hq : Hid (min b 3 = q)) (hc : Hid (min m q = c)) (hg2 : Hid (min G 1000000000000 = g2)) (hneg : 0 ≤ m) (eB : IntKind.i64.wrap (b - c) = B) (eG : IntKind.i64.wrap (g + m) = G) (ex : IntKind.i64.wrap (m - c) = x) (eL : IntKind.i64.wrap (l - x) = 0) (HT : Hid (Pm.give ⟨1, n, d, r, l, b, g, k⟩ a = ⟨2, 1, 50, 0, 0, B, g2, k⟩)) (w : World) : Calls Tryz.prog 56 #[PV 1 n d r l b g k, .int .i64 a] w fun e w' => e = .returned (Pm.give ⟨1, n, d, r, l, b, g, k⟩ a).V ∧ Below w.heap.size w w' := by
 have HB0 : Hid (Below w.heap.size w ((w.alloc (PB 1 n d r l b g k)).alloc (PB 0 0 0 0 0 0 0 0))) := bel_on (Nat.le_refl _) (alP _ _) (alP _ _)
 have HP0 : Hid (((w.alloc (PB 1 n d r l b g k)).alloc (PB 0 0 0 0 0 0 0 0)).heap[w.heap.size]? = some (PB 1 n d r l b g k)) := row_on (heap_new w _) (alP _ _)
 have HZ0 : Hid (((w.alloc (PB 1 n d r l b g k)).alloc (PB 0 0 0 0 0 0 0 0)).heap[w.heap.size + 1]? = some (PB 0 0 0 0 0 0 0 0)) := al_at (w.alloc (PB 1 n d r l b g k)) _ (by simp)
 have p0 := box8_cells HP0.out
 go_enter Tryz.func56, Tryz.ntmps56
 go_wp2_with fail
 refine Calls.mono (KP.out _) ?_
 rintro e w1 ⟨rfl, hb1⟩
 have HB1 := bq HB0 hb1
 have HP1 := rq HP0 hb1
 have HZ1 := rq HZ0 hb1
 have p1 := box8_cells HP1.out
 clear hb1 HB0 HP0 HZ0 p0
 go_wp2_with fail
 refine Calls.mono (KW.out _) ?_
 rintro e w2 ⟨rfl, hb2⟩
 have HB2 := bq HB1 hb2
 have HP2 := rq HP1 hb2
 have HZ2 := rq HZ1 hb2
 have p2 := box8_cells HP2.out
 have hl2 := row_lt HZ2.out
 clear hb2 HB1 HP1 HZ1 p1 KP KW
 go_wp2_with fail
 refine (lessS a W m hm.out _).mono ?_
 rintro e wz ⟨rfl, hwz⟩
 subst hwz
 have HN2 : Hid ((wz.alloc (PB 0 0 0 0 0 0 0 0)).heap[wz.heap.size]? = some (PB 0 0 0 0 0 0 0 0)) := heap_new wz _
 have HPa : Hid ((wz.alloc (PB 0 0 0 0 0 0 0 0)).heap[w.heap.size]? = some (PB 1 n d r l b g k)) := row_on HP2.out (alP _ _)
 have HZa : Hid ((wz.alloc (PB 0 0 0 0 0 0 0 0)).heap[w.heap.size + 1]? = some (PB 0 0 0 0 0 0 0 0)) := row_on HZ2.out (alP _ _)
 have HBa : Hid (Below w.heap.size w (wz.alloc (PB 0 0 0 0 0 0 0 0))) := bel_on (Nat.le_refl _) HB2.out (alP _ _)
 go_upto_region 6 with fail
 go_wp2_with (refine listStoreP rfl rfl _ _ _ rfl rfl wz.heap.size (1) (n) (d) (r) (l) (b) (g) (k) rfl rfl HN2.out ?_)
 intro w3 hr3 ho3 hs3 hB3
 obtain ⟨Q, hQ⟩ : ∃ Q, wz.heap.size = Q := ⟨_, rfl⟩
 rw [hQ] at hr3 ho3 hB3 hl2
 have hl : w.heap.size ≤ Q := by omega
 have HB3 : Hid (Below w.heap.size w w3) := hB3 _ _ hl HBa.out
 have HN3 := aqSpGv1s hr3
 have HP3 := aqSpGv1s ((ho3 _ (by omega)).trans HPa.out)
 have HZ3 := aqSpGv1s ((ho3 _ (by omega)).trans HZa.out)
 have p3 := box8_cells HP3.out
 have n3 := box8_cells HN3.out
 rw [hQ]
 clear hr3 ho3 hs3 hB3 HN2 HPa HZa HBa HP2 HZ2 HB2 p2 hQ
 go_wp2_with fail
 refine Calls.mono (KR.out _) ?_
 rintro e w4 ⟨rfl, hb4⟩
 have HB4 := bq HB3 hb4
 have HN4 := rq HN3 hb4
 have HP4 := rq HP3 hb4
 have HZ4 := rq HZ3 hb4
 have p4 := box8_cells HP4.out
 have n4 := box8_cells HN4.out
 clear hb4 HB3 HN3 HP3 HZ3 p3 n3 KR
 go_wp2_with (refine listStoreR rfl rfl _ _ _ rfl rfl Q (n) (d) (r') rfl rfl HN4.out ?_)
 intro w5 hr ho hs hB
 have HB5 : Hid (Below w.heap.size w w5) := hB _ _ hl HB4.out
 have HN5 := aqSpGv1s hr
 have HP5 := aqSpGv1s ((ho _ (by omega)).trans HP4.out)
 have HZ5 := aqSpGv1s ((ho _ (by omega)).trans HZ4.out)
 have p5 := box8_cells HP5.out
 have n5 := box8_cells HN5.out
 clear hr ho hs hB HB4 HN4 HP4 HZ4 p4 n4
 go_wp2_with fail
 refine (lessS b 3 q hq.out _).mono ?_
 rintro e wz ⟨rfl, hwz⟩
 subst hwz
 go_wp2_with fail
 refine (lessS m q c hc.out _).mono ?_
 rintro e wz ⟨rfl, hwz⟩
 subst hwz
 go_upto_region 9 with fail
 go_wp2_with (refine listStoreC rfl rfl _ _ _ rfl rfl Q 5 (B) rfl rfl HN5.out (by simp) ?_)
 intro w6 hr ho hs hB
 have HB6 : Hid (Below w.heap.size w w6) := hB _ _ hl HB5.out
 have HN6 := aqSpGv1s hr
 have HP6 := aqSpGv1s ((ho _ (by omega)).trans HP5.out)
 have HZ6 := aqSpGv1s ((ho _ (by omega)).trans HZ5.out)
 have p6 := box8_cells HP6.out
 have n6 := box8_cells HN6.out
 clear hr ho hs hB HB5 HN5 HP5 HZ5 p5 n5
 go_upto_region 11 with fail
 go_wp2_with (refine listStoreC rfl rfl _ _ _ rfl rfl Q 4 (0) rfl rfl HN6.out (by simp) ?_)
 intro w7 hr ho hs hB
 have HB7 : Hid (Below w.heap.size w w7) := hB _ _ hl HB6.out
 have HN7 := aqSpGv1s hr
 have HP7 := aqSpGv1s ((ho _ (by omega)).trans HP6.out)
 have HZ7 := aqSpGv1s ((ho _ (by omega)).trans HZ6.out)
 have p7 := box8_cells HP7.out
 have n7 := box8_cells HN7.out
 clear hr ho hs hB HB6 HN6 HP6 HZ6 p6 n6
 go_wp2_with fail
 refine (lessS G 1000000000000 g2 hg2.out _).mono ?_
 rintro e wz ⟨rfl, hwz⟩
 subst hwz
 go_wp2_with (refine listStoreC rfl rfl _ _ _ rfl rfl Q 6 (g2) rfl rfl HN7.out (by simp) ?_)
 intro w8 hr ho hs hB
 have HB8 : Hid (Below w.heap.size w w8) := hB _ _ hl HB7.out
 have HN8 := aqSpGv1s hr
 have HP8 := aqSpGv1s ((ho _ (by omega)).trans HP7.out)
 have HZ8 := aqSpGv1s ((ho _ (by omega)).trans HZ7.out)
 have p8 := box8_cells HP8.out
 have n8 := box8_cells HN8.out
 clear hr ho hs hB HB7 HN7 HP7 HZ7 p7 n7
 go_upto_region 14 with fail
 go_wp2_with (refine listStoreC rfl rfl _ _ _ rfl rfl Q 0 (2) rfl rfl HN8.out (by simp) ?_)
 intro w9 hr ho hs hB
 have HB9 : Hid (Below w.heap.size w w9) := hB _ _ hl HB8.out
 have HN9 := aqSpGv1s hr
 have HP9 := aqSpGv1s ((ho _ (by omega)).trans HP8.out)
 have HZ9 := aqSpGv1s ((ho _ (by omega)).trans HZ8.out)
 have p9 := box8_cells HP9.out
 have n9 := box8_cells HN9.out
 clear hr ho hs hB HB8 HN8 HP8 HZ8 p8 n8
 go_upto_region 15 with fail
 go_wp2_with (refine listStoreR rfl rfl _ _ _ rfl rfl Q (1) (50) (0) rfl rfl HN9.out ?_)
 intro w10 hr ho hs hB
 have HB10 : Hid (Below w.heap.size w w10) := hB _ _ hl HB9.out
 have HN10 := aqSpGv1s hr
 have HP10 := aqSpGv1s ((ho _ (by omega)).trans HP9.out)
 have HZ10 := aqSpGv1s ((ho _ (by omega)).trans HZ9.out)
 have p10 := box8_cells HP10.out
 have n10 := box8_cells HN10.out
 clear hr ho hs hB HB9 HN9 HP9 HZ9 p9 n9
 go_upto_region 16 with fail
 go_wp2_with (refine listStoreP rfl rfl _ _ _ rfl rfl (w.heap.size + 1) (2) (1) (50) (0) (0) (B) (g2) (k) rfl rfl HZ10.out ?_)
 intro w99 hr9 ho9 hs9 hB9
 have HF := aqSpGv1s (hB9 _ _ (Nat.le_succ _) HB10.out)
 obtain ⟨⟨q0, q1, q2, q3, q4, q5, q6, q7⟩, _⟩ := box8_cells hr9
 clear ho9 hs9 hB9 hr9
 go_wp2
 refine bodyPost_ret (v := PV 2 1 50 0 0 B g2 k) (by simp only [results, Tryz.results56]; simp [go_sem, q0, q1, q2, q3, q4, q5, q6, q7]) rfl ⟨by rw [HT.out]; rfl, HF.out⟩
theorem aqSpGv3s {p : Prop} (h : p) : Hid p := h
theorem giveS_2 (n d r l b g k a m W c q B G g2 r' y : Int) (KP : Hid (∀ w, Calls Tryz.prog 94 #[PV 2 n d r l b g k] w fun e w' => e = .returned (.bool true) ∧ Below w.heap.size w w')) (KW : Hid (∀ w, Calls Tryz.prog 55 #[PV 2 n d r l b g k] w fun e w' => e = .returned (.int .i64 W) ∧ Below w.heap.size w w')) (KR : Hid (∀ w, Calls Tryz.prog 110 #[.agg #[.int .i64 n, .int .i64 d, .int .i64 r]] w fun e w' => e = .returned (.tuple #[.agg #[.int .i64 n, .int .i64 d, .int .i64 r'], .int .i64 y]) ∧ Below w.heap.size w w')) (hm : Hid (min a W = m)) (hq : Hid (min b 3 = q)) (hc : Hid (min m q = c)) (hg2 : Hid (min G 1000000000000 = g2)) (hneg : 0 ≤ m) (eB : IntKind.i64.wrap (b - c) = B) (eG : IntKind.i64.wrap (g + m) = G) (HT : Hid (Pm.give ⟨2, n, d, r, l, b, g, k⟩ a = ⟨2, n, d, r', l, B, g2, k⟩)) (w : World) : Calls Tryz.prog 56 #[PV 2 n d r l b g k, .int .i64 a] w fun e w' => e = .returned (Pm.give ⟨2, n, d, r, l, b, g, k⟩ a).V ∧ Below w.heap.size w w' := by
 have HB0 : Hid (Below w.heap.size w ((w.alloc (PB 2 n d r l b g k)).alloc (PB 0 0 0 0 0 0 0 0))) := bel_on (Nat.le_refl _) (alP _ _) (alP _ _)
 have HP0 : Hid (((w.alloc (PB 2 n d r l b g k)).alloc (PB 0 0 0 0 0 0 0 0)).heap[w.heap.size]? = some (PB 2 n d r l b g k)) := row_on (heap_new w _) (alP _ _)
 have HZ0 : Hid (((w.alloc (PB 2 n d r l b g k)).alloc (PB 0 0 0 0 0 0 0 0)).heap[w.heap.size + 1]? = some (PB 0 0 0 0 0 0 0 0)) := al_at (w.alloc (PB 2 n d r l b g k)) _ (by simp)
 have p0 := box8_cells HP0.out
 go_enter Tryz.func56, Tryz.ntmps56
 go_wp2_with fail
 refine Calls.mono (KP.out _) ?_
 rintro e w1 ⟨rfl, hb1⟩
 have HB1 := bq HB0 hb1
 have HP1 := rq HP0 hb1
 have HZ1 := rq HZ0 hb1
 have p1 := box8_cells HP1.out
 clear hb1 HB0 HP0 HZ0 p0
 go_wp2_with fail
 refine Calls.mono (KW.out _) ?_
 rintro e w2 ⟨rfl, hb2⟩
 have HB2 := bq HB1 hb2
 have HP2 := rq HP1 hb2
 have HZ2 := rq HZ1 hb2
 have p2 := box8_cells HP2.out
 have hl2 := row_lt HZ2.out
 clear hb2 HB1 HP1 HZ1 p1 KP KW
 go_wp2_with fail
 refine (lessS a W m hm.out _).mono ?_
 rintro e wz ⟨rfl, hwz⟩
 subst hwz
 have HN2 : Hid ((wz.alloc (PB 0 0 0 0 0 0 0 0)).heap[wz.heap.size]? = some (PB 0 0 0 0 0 0 0 0)) := heap_new wz _
 have HPa : Hid ((wz.alloc (PB 0 0 0 0 0 0 0 0)).heap[w.heap.size]? = some (PB 2 n d r l b g k)) := row_on HP2.out (alP _ _)
 have HZa : Hid ((wz.alloc (PB 0 0 0 0 0 0 0 0)).heap[w.heap.size + 1]? = some (PB 0 0 0 0 0 0 0 0)) := row_on HZ2.out (alP _ _)
 have HBa : Hid (Below w.heap.size w (wz.alloc (PB 0 0 0 0 0 0 0 0))) := bel_on (Nat.le_refl _) HB2.out (alP _ _)
 go_upto_region 6 with fail
 go_wp2_with (refine listStoreP rfl rfl _ _ _ rfl rfl wz.heap.size (2) (n) (d) (r) (l) (b) (g) (k) rfl rfl HN2.out ?_)
 intro w3 hr3 ho3 hs3 hB3
 obtain ⟨Q, hQ⟩ : ∃ Q, wz.heap.size = Q := ⟨_, rfl⟩
 rw [hQ] at hr3 ho3 hB3 hl2
 have hl : w.heap.size ≤ Q := by omega
 have HB3 : Hid (Below w.heap.size w w3) := hB3 _ _ hl HBa.out
 have HN3 := aqSpGv3s hr3
 have HP3 := aqSpGv3s ((ho3 _ (by omega)).trans HPa.out)
 have HZ3 := aqSpGv3s ((ho3 _ (by omega)).trans HZa.out)
 have p3 := box8_cells HP3.out
 have n3 := box8_cells HN3.out
 rw [hQ]
 clear hr3 ho3 hs3 hB3 HN2 HPa HZa HBa HP2 HZ2 HB2 p2 hQ
 go_wp2_with fail
 refine Calls.mono (KR.out _) ?_
 rintro e w4 ⟨rfl, hb4⟩
 have HB4 := bq HB3 hb4
 have HN4 := rq HN3 hb4
 have HP4 := rq HP3 hb4
 have HZ4 := rq HZ3 hb4
 have p4 := box8_cells HP4.out
 have n4 := box8_cells HN4.out
 clear hb4 HB3 HN3 HP3 HZ3 p3 n3 KR
 go_wp2_with (refine listStoreR rfl rfl _ _ _ rfl rfl Q (n) (d) (r') rfl rfl HN4.out ?_)
 intro w5 hr ho hs hB
 have HB5 : Hid (Below w.heap.size w w5) := hB _ _ hl HB4.out
 have HN5 := aqSpGv3s hr
 have HP5 := aqSpGv3s ((ho _ (by omega)).trans HP4.out)
 have HZ5 := aqSpGv3s ((ho _ (by omega)).trans HZ4.out)
 have p5 := box8_cells HP5.out
 have n5 := box8_cells HN5.out
 clear hr ho hs hB HB4 HN4 HP4 HZ4 p4 n4
 go_wp2_with fail
 refine (lessS b 3 q hq.out _).mono ?_
 rintro e wz ⟨rfl, hwz⟩
 subst hwz
 go_wp2_with fail
 refine (lessS m q c hc.out _).mono ?_
 rintro e wz ⟨rfl, hwz⟩
 subst hwz
 go_upto_region 9 with fail
 go_wp2_with (refine listStoreC rfl rfl _ _ _ rfl rfl Q 5 (B) rfl rfl HN5.out (by simp) ?_)
 intro w6 hr ho hs hB
 have HB6 : Hid (Below w.heap.size w w6) := hB _ _ hl HB5.out
 have HN6 := aqSpGv3s hr
 have HP6 := aqSpGv3s ((ho _ (by omega)).trans HP5.out)
 have HZ6 := aqSpGv3s ((ho _ (by omega)).trans HZ5.out)
 have p6 := box8_cells HP6.out
 have n6 := box8_cells HN6.out
 clear hr ho hs hB HB5 HN5 HP5 HZ5 p5 n5
 go_wp2_with fail
 refine (lessS G 1000000000000 g2 hg2.out _).mono ?_
 rintro e wz ⟨rfl, hwz⟩
 subst hwz
 go_wp2_with (refine listStoreC rfl rfl _ _ _ rfl rfl Q 6 (g2) rfl rfl HN6.out (by simp) ?_)
 intro w8 hr ho hs hB
 have HB8 : Hid (Below w.heap.size w w8) := hB _ _ hl HB6.out
 have HN8 := aqSpGv3s hr
 have HP8 := aqSpGv3s ((ho _ (by omega)).trans HP6.out)
 have HZ8 := aqSpGv3s ((ho _ (by omega)).trans HZ6.out)
 have p8 := box8_cells HP8.out
 have n8 := box8_cells HN8.out
 clear hr ho hs hB HB6 HN6 HP6 HZ6 p6 n6
 go_upto_region 16 with fail
 go_wp2_with (refine listStoreP rfl rfl _ _ _ rfl rfl (w.heap.size + 1) (2) (n) (d) (r') (l) (B) (g2) (k) rfl rfl HZ8.out ?_)
 intro w99 hr9 ho9 hs9 hB9
 have HF := aqSpGv3s (hB9 _ _ (Nat.le_succ _) HB8.out)
 obtain ⟨⟨q0, q1, q2, q3, q4, q5, q6, q7⟩, _⟩ := box8_cells hr9
 clear ho9 hs9 hB9 hr9
 go_wp2
 refine bodyPost_ret (v := PV 2 n d r' l B g2 k) (by simp only [results, Tryz.results56]; simp [go_sem, q0, q1, q2, q3, q4, q5, q6, q7]) rfl ⟨by rw [HT.out]; rfl, HF.out⟩
theorem giveS_2n (n d r l b g k a m W q r' y : Int) (KP : Hid (∀ w, Calls Tryz.prog 94 #[PV 2 n d r l b g k] w fun e w' => e = .returned (.bool true) ∧ Below w.heap.size w w')) (KW : Hid (∀ w, Calls Tryz.prog 55 #[PV 2 n d r l b g k] w fun e w' => e = .returned (.int .i64 W) ∧ Below w.heap.size w w')) (KR : Hid (∀ w, Calls Tryz.prog 110 #[.agg #[.int .i64 n, .int .i64 d, .int .i64 r]] w fun e w' => e = .returned (.tuple #[.agg #[.int .i64 n, .int .i64 d, .int .i64 r'], .int .i64 y]) ∧ Below w.heap.size w w')) (hm : Hid (min a W = m)) (hq : Hid (min b 3 = q)) (hc : Hid (min 0 q = 0)) (hg2 : Hid (min g 1000000000000 = g)) (hneg : m < 0) (eb : IntKind.i64.wrap b = b) (eb' : wrap64 b = b) (eg : IntKind.i64.wrap g = g) (eg' : wrap64 g = g) (el : IntKind.i64.wrap l = l) (el' : wrap64 l = l) (HT : Hid (Pm.give ⟨2, n, d, r, l, b, g, k⟩ a = ⟨2, n, d, r', l, b, g, k⟩)) (w : World) : Calls Tryz.prog 56 #[PV 2 n d r l b g k, .int .i64 a] w fun e w' => e = .returned (Pm.give ⟨2, n, d, r, l, b, g, k⟩ a).V ∧ Below w.heap.size w w' := by
 have HB0 : Hid (Below w.heap.size w ((w.alloc (PB 2 n d r l b g k)).alloc (PB 0 0 0 0 0 0 0 0))) := bel_on (Nat.le_refl _) (alP _ _) (alP _ _)
 have HP0 : Hid (((w.alloc (PB 2 n d r l b g k)).alloc (PB 0 0 0 0 0 0 0 0)).heap[w.heap.size]? = some (PB 2 n d r l b g k)) := row_on (heap_new w _) (alP _ _)
 have HZ0 : Hid (((w.alloc (PB 2 n d r l b g k)).alloc (PB 0 0 0 0 0 0 0 0)).heap[w.heap.size + 1]? = some (PB 0 0 0 0 0 0 0 0)) := al_at (w.alloc (PB 2 n d r l b g k)) _ (by simp)
 have p0 := box8_cells HP0.out
 go_enter Tryz.func56, Tryz.ntmps56
 go_wp2_with fail
 refine Calls.mono (KP.out _) ?_
 rintro e w1 ⟨rfl, hb1⟩
 have HB1 := bq HB0 hb1
 have HP1 := rq HP0 hb1
 have HZ1 := rq HZ0 hb1
 have p1 := box8_cells HP1.out
 clear hb1 HB0 HP0 HZ0 p0
 go_wp2_with fail
 refine Calls.mono (KW.out _) ?_
 rintro e w2 ⟨rfl, hb2⟩
 have HB2 := bq HB1 hb2
 have HP2 := rq HP1 hb2
 have HZ2 := rq HZ1 hb2
 have p2 := box8_cells HP2.out
 have hl2 := row_lt HZ2.out
 clear hb2 HB1 HP1 HZ1 p1 KP KW
 go_wp2_with fail
 refine (lessS a W m hm.out _).mono ?_
 rintro e wz ⟨rfl, hwz⟩
 subst hwz
 have HN2 : Hid ((wz.alloc (PB 0 0 0 0 0 0 0 0)).heap[wz.heap.size]? = some (PB 0 0 0 0 0 0 0 0)) := heap_new wz _
 have HPa : Hid ((wz.alloc (PB 0 0 0 0 0 0 0 0)).heap[w.heap.size]? = some (PB 2 n d r l b g k)) := row_on HP2.out (alP _ _)
 have HZa : Hid ((wz.alloc (PB 0 0 0 0 0 0 0 0)).heap[w.heap.size + 1]? = some (PB 0 0 0 0 0 0 0 0)) := row_on HZ2.out (alP _ _)
 have HBa : Hid (Below w.heap.size w (wz.alloc (PB 0 0 0 0 0 0 0 0))) := bel_on (Nat.le_refl _) HB2.out (alP _ _)
 go_upto_region 6 with fail
 go_wp2_with (refine listStoreP rfl rfl _ _ _ rfl rfl wz.heap.size (2) (n) (d) (r) (l) (b) (g) (k) rfl rfl HN2.out ?_)
 intro w3 hr3 ho3 hs3 hB3
 obtain ⟨Q, hQ⟩ : ∃ Q, wz.heap.size = Q := ⟨_, rfl⟩
 rw [hQ] at hr3 ho3 hB3 hl2
 have hl : w.heap.size ≤ Q := by omega
 have HB3 : Hid (Below w.heap.size w w3) := hB3 _ _ hl HBa.out
 have HN3 := aqSpGv3s hr3
 have HP3 := aqSpGv3s ((ho3 _ (by omega)).trans HPa.out)
 have HZ3 := aqSpGv3s ((ho3 _ (by omega)).trans HZa.out)
 have p3 := box8_cells HP3.out
 have n3 := box8_cells HN3.out
 rw [hQ]
 clear hr3 ho3 hs3 hB3 HN2 HPa HZa HBa HP2 HZ2 HB2 p2 hQ
 go_wp2_with fail
 refine Calls.mono (KR.out _) ?_
 rintro e w4 ⟨rfl, hb4⟩
 have HB4 := bq HB3 hb4
 have HN4 := rq HN3 hb4
 have HP4 := rq HP3 hb4
 have HZ4 := rq HZ3 hb4
 have p4 := box8_cells HP4.out
 have n4 := box8_cells HN4.out
 clear hb4 HB3 HN3 HP3 HZ3 p3 n3 KR
 go_wp2_with (refine listStoreR rfl rfl _ _ _ rfl rfl Q (n) (d) (r') rfl rfl HN4.out ?_)
 intro w5 hr ho hs hB
 have HB5 : Hid (Below w.heap.size w w5) := hB _ _ hl HB4.out
 have HN5 := aqSpGv3s hr
 have HP5 := aqSpGv3s ((ho _ (by omega)).trans HP4.out)
 have HZ5 := aqSpGv3s ((ho _ (by omega)).trans HZ4.out)
 have p5 := box8_cells HP5.out
 have n5 := box8_cells HN5.out
 clear hr ho hs hB HB4 HN4 HP4 HZ4 p4 n4
 go_wp2_with fail
 refine (lessS b 3 q hq.out _).mono ?_
 rintro e wz ⟨rfl, hwz⟩
 subst hwz
 go_wp2_with fail
 refine (lessS 0 q 0 hc.out _).mono ?_
 rintro e wz ⟨rfl, hwz⟩
 subst hwz
 go_upto_region 9 with fail
 go_wp2_with (refine listStoreC rfl rfl _ _ _ rfl rfl Q 5 (b) rfl rfl HN5.out (by simp) ?_)
 intro w6 hr ho hs hB
 have HB6 : Hid (Below w.heap.size w w6) := hB _ _ hl HB5.out
 have HN6 := aqSpGv3s hr
 have HP6 := aqSpGv3s ((ho _ (by omega)).trans HP5.out)
 have HZ6 := aqSpGv3s ((ho _ (by omega)).trans HZ5.out)
 have p6 := box8_cells HP6.out
 have n6 := box8_cells HN6.out
 clear hr ho hs hB HB5 HN5 HP5 HZ5 p5 n5
 go_wp2_with fail
 refine (lessS g 1000000000000 g hg2.out _).mono ?_
 rintro e wz ⟨rfl, hwz⟩
 subst hwz
 go_wp2_with (refine listStoreC rfl rfl _ _ _ rfl rfl Q 6 (g) rfl rfl HN6.out (by simp) ?_)
 intro w8 hr ho hs hB
 have HB8 : Hid (Below w.heap.size w w8) := hB _ _ hl HB6.out
 have HN8 := aqSpGv3s hr
 have HP8 := aqSpGv3s ((ho _ (by omega)).trans HP6.out)
 have HZ8 := aqSpGv3s ((ho _ (by omega)).trans HZ6.out)
 have p8 := box8_cells HP8.out
 have n8 := box8_cells HN8.out
 clear hr ho hs hB HB6 HN6 HP6 HZ6 p6 n6
 go_upto_region 16 with fail
 go_wp2_with (refine listStoreP rfl rfl _ _ _ rfl rfl (w.heap.size + 1) (2) (n) (d) (r') (l) (b) (g) (k) rfl rfl HZ8.out ?_)
 intro w99 hr9 ho9 hs9 hB9
 have HF := aqSpGv3s (hB9 _ _ (Nat.le_succ _) HB8.out)
 obtain ⟨⟨q0, q1, q2, q3, q4, q5, q6, q7⟩, _⟩ := box8_cells hr9
 clear ho9 hs9 hB9 hr9
 go_wp2
 refine bodyPost_ret (v := PV 2 n d r' l b g k) (by simp only [results, Tryz.results56]; simp [go_sem, q0, q1, q2, q3, q4, q5, q6, q7]) rfl ⟨by rw [HT.out]; rfl, HF.out⟩
theorem giveS (p : Pm) (a : Int) (w : World) : Calls Tryz.prog 56 #[p.V, .int .i64 a] w fun e w' => e = .returned (p.give a).V ∧ Below w.heap.size w w' := by
 obtain ⟨s, n, d, r, l, b, g, k⟩ := p
 by_cases hp : Pm.ok ⟨s, n, d, r, l, b, g, k⟩
 ·
  have hs : s = 0 ∨ s = 1 ∨ s = 2 ∨ s = 3 := by have := hp.1; dsimp only at this; omega
  have hrr : ratR n d r := hp.2.1
  have hpl : 0 ≤ l ∧ l ≤ 5000 := hp.2.2.2.1
  have hlp : 0 < l ↔ (s = 1 ∨ (s = 3 ∧ k = 1)) := hp.2.2.2.2.1
  have hpb : 0 ≤ b ∧ b ≤ 100 := hp.2.2.2.2.2.1
  have hpg : 0 ≤ g ∧ g ≤ 1000000000000 := hp.2.2.2.2.2.2.1
  have hw := wants_bd ⟨s, n, d, r, l, b, g, k⟩
  have KP : Hid (∀ w, Calls Tryz.prog 94 #[PV s n d r l b g k] w fun e w' => e = .returned (.bool true) ∧ Below w.heap.size w w') := fun w => pumpokS ⟨s, n, d, r, l, b, g, k⟩ true ⟨fun _ => hp, fun _ => rfl⟩ w
  obtain ⟨W, hW⟩ : ∃ W, Pm.wants ⟨s, n, d, r, l, b, g, k⟩ = W := ⟨_, rfl⟩
  rw [hW] at hw
  have KW : Hid (∀ w, Calls Tryz.prog 55 #[PV s n d r l b g k] w fun e w' => e = .returned (.int .i64 W) ∧ Below w.heap.size w w') := fun w => by rw [← hW]; exact wantsS ⟨s, n, d, r, l, b, g, k⟩ w
  have KR : Hid (∀ w, Calls Tryz.prog 110 #[.agg #[.int .i64 n, .int .i64 d, .int .i64 r]] w fun e w' => e = .returned (.tuple #[.agg #[.int .i64 n, .int .i64 d, .int .i64 ((r + n) % d)], .int .i64 ((r + n) / d)]) ∧ Below w.heap.size w w') := fun w => by
   have h := stepRS n d r w
   rw [show stepR n d r = (r + n) % d from if_pos hrr, show stepO n d r = (r + n) / d from if_pos hrr] at h
   exact h
  obtain ⟨m, hm⟩ : ∃ m, min a W = m := ⟨_, rfl⟩
  have hm6 : m ≤ 6 := by omega
  rcases hs with rfl | rfl | rfl | rfl
  · exact giveS_0 n d r l b g k a hp w
  ·
   have hT : Pm.give ⟨1, n, d, r, l, b, g, k⟩ a = Pm.giveR ⟨1, n, d, r, l, b, g, k⟩ a := if_pos ⟨ok_yes hp, .inl rfl⟩
   by_cases hneg : m < 0
   ·
    have hx : max m 0 = 0 := by omega
    have hc : min (0 : Int) (min b 3) = 0 := by omega
    have hl0 : ¬ l = 0 := by have := hlp.2 (.inl rfl); omega
    refine giveS_1n n d r l b g k a m W (min b 3) ((r + n) % d) ((r + n) / d) KP KW KR hm rfl hc (by show _ = _; omega) hneg (wrap_in (by omega) (by omega)) (wrap64_in (by omega) (by omega)) (wrap_in (by omega) (by omega)) (wrap64_in (by omega) (by omega)) (wrap_in (by omega) (by omega)) (wrap64_in (by omega) (by omega)) hl0 ?_ w
    show _ = _
    rw [hT]
    unfold Pm.giveR
    simp only [hW, hm, hx, hc]
    simp [hl0]
    omega
   ·
    have hx : max m 0 = m := by omega
    obtain ⟨c, hc⟩ : ∃ c, min m (min b 3) = c := ⟨_, rfl⟩
    have hcb : 0 ≤ c ∧ c ≤ 3 ∧ c ≤ m := by omega
    by_cases hz : l - (m - c) = 0
    ·
     refine giveS_1z n d r l b g k a m W c (min b 3) (b - c) (m - c) (g + m) (min (g + m) 1000000000000) ((r + n) % d) ((r + n) / d) KP KW KR hm rfl hc rfl (by omega) (wrap_in (by omega) (by omega)) (wrap_in (by omega) (by omega)) (wrap_in (by omega) (by omega)) (by rw [hz]; rfl) ?_ w
     show _ = _
     rw [hT]
     unfold Pm.giveR
     simp only [hW, hm, hx, hc]
     simp [hz]
    ·
     refine giveS_1 n d r l b g k a m W c (min b 3) (b - c) (m - c) (l - (m - c)) (g + m) (min (g + m) 1000000000000) ((r + n) % d) ((r + n) / d) KP KW KR hm rfl hc rfl (by omega) (wrap_in (by omega) (by omega)) (wrap_in (by omega) (by omega)) (wrap_in (by omega) (by omega)) (wrap_in (by omega) (by omega)) hz ?_ w
     show _ = _
     rw [hT]
     unfold Pm.giveR
     simp only [hW, hm, hx, hc]
     simp [hz]
  ·
   have hT : Pm.give ⟨2, n, d, r, l, b, g, k⟩ a = Pm.giveR ⟨2, n, d, r, l, b, g, k⟩ a := if_pos ⟨ok_yes hp, .inr rfl⟩
   by_cases hneg : m < 0
   ·
    have hx : max m 0 = 0 := by omega
    have hc : min (0 : Int) (min b 3) = 0 := by omega
    refine giveS_2n n d r l b g k a m W (min b 3) ((r + n) % d) ((r + n) / d) KP KW KR hm rfl hc (by show _ = _; omega) hneg (wrap_in (by omega) (by omega)) (wrap64_in (by omega) (by omega)) (wrap_in (by omega) (by omega)) (wrap64_in (by omega) (by omega)) (wrap_in (by omega) (by omega)) (wrap64_in (by omega) (by omega)) ?_ w
    show _ = _
    rw [hT]
    unfold Pm.giveR
    simp only [hW, hm, hx, hc]
    simp
    omega
   ·
    have hx : max m 0 = m := by omega
    obtain ⟨c, hc⟩ : ∃ c, min m (min b 3) = c := ⟨_, rfl⟩
    have hcb : 0 ≤ c ∧ c ≤ 3 ∧ c ≤ m := by omega
    refine giveS_2 n d r l b g k a m W c (min b 3) (b - c) (g + m) (min (g + m) 1000000000000) ((r + n) % d) ((r + n) / d) KP KW KR hm rfl hc rfl (by omega) (wrap_in (by omega) (by omega)) (wrap_in (by omega) (by omega)) ?_ w
    show _ = _
    rw [hT]
    unfold Pm.giveR
    simp only [hW, hm, hx, hc]
    simp
  · exact giveS_3 n d r l b g k a hp w
 · exact giveS_no s n d r l b g k a hp w
end Go.Proofs.YtfhhnelffldggaaGreatDoor
