/-
  The program's device at work: what stays while it does.
-/
import Derived.Test.YtfhhnelffldggaaGreatDoorUqAX
import Derived.Test.YtfhhnelffldggaaGreatDoorUqAZ
import Derived.Test.YtfhhnelffldggaaGreatDoorUqBD
import Derived.Deep.DeepCutAuto
import Derived.Test.YtfhhnelffldggaaGreatDoorUqAS
import Derived.Test.YtfhhnelffldggaaGreatDoorUqAV
set_option maxRecDepth 100000
set_option maxHeartbeats 16000000
namespace Go.Proofs.YtfhhnelffldggaaGreatDoor
open Go.RowKit Go.PlainAid
set_option linter.unusedVariables false
set_option linter.unusedSimpArgs false
theorem grw_refl (w : World) (r : Option Nat) : w.grownBy w r := ⟨rfl, rfl, rfl, Nat.le_refl _, fun _ _ _ => rfl⟩
theorem grw_drew {w w' : World} {r : Option Nat} (h : w.grownBy w' r) : w.grownBy w'.drew r := ⟨h.os, h.tape, h.output, h.size, h.block⟩
theorem grw_on {w w' w2 : World} {r : Option Nat} (h : w.grownBy w' r) (hb : Below w'.heap.size w' w2) : w.grownBy w2 r :=
 ⟨hb.os.trans h.os, hb.tape.trans h.tape, hb.output.trans h.output, Nat.le_trans h.size hb.size, fun i hi hr => (hb.block i (Nat.lt_of_lt_of_le hi h.size)).trans (h.block i hi hr)⟩
theorem grw_put {w w' w2 : World} {k : Nat} {o : Obj} (h : w.grownBy w' (some k)) (hp : PutM w' w2 k o) : w.grownBy w2 (some k) :=
 ⟨(hp.2.2.2 k w' (Nat.le_refl _) (Below.refl _ _)).os.trans h.os, (hp.2.2.2 k w' (Nat.le_refl _) (Below.refl _ _)).tape.trans h.tape, (hp.2.2.2 k w' (Nat.le_refl _) (Below.refl _ _)).output.trans h.output, by rw [hp.2.2.1]; exact h.size, fun i hi hr => (hp.2.1 i (fun e => hr (by rw [e]))).trans (h.block i hi hr)⟩
theorem grw_new {w w' w2 : World} {k : Nat} {r : Option Nat} {o : Obj} (h : w.grownBy w' r) (hp : PutM w' w2 k o) (hk : w.heap.size ≤ k) : w.grownBy w2 r :=
 ⟨(hp.2.2.2 k w' (Nat.le_refl _) (Below.refl _ _)).os.trans h.os, (hp.2.2.2 k w' (Nat.le_refl _) (Below.refl _ _)).tape.trans h.tape, (hp.2.2.2 k w' (Nat.le_refl _) (Below.refl _ _)).output.trans h.output, by rw [hp.2.2.1]; exact h.size, fun i hi hr => (hp.2.1 i (by omega)).trans (h.block i hi hr)⟩
theorem own_ne {w : World} {B e z n k : Nat} {v : Value} {xs : List Value} {cs : Array Value} {T : TypeId} {fr : Nat × Nat} (h : w.ownsRow B e z v n xs) (hr : w.heap[k]? = some (.cells cs T fr)) (hT : e ≠ T) : ∀ g, v.ownBlock = some g → g ≠ k := by
 intro g hg e1
 subst e1
 rcases h.2 with ⟨hv, _⟩ | ⟨g', cap, cur, hv, _, hh, _⟩
 · subst hv; cases hg
 ·
  subst hv
  cases hg
  rw [hh] at hr
  cases hr
  exact hT rfl
theorem storeR_any {ops : Array Oper} {o : Oper} {a : Act} {K : Act → World → Prop} {Q : Exit → Act → World → Prop} {E : Prop} {w : World} (hw : Region.wanted o (yielded ops a.tmps) = true) (hd : o.dst = none) (x y : Operand) (ty : TypeId) (ho : o.op = .store ty x y)
  (g : Nat) (vs : Array Value) (hx : a.eval x = .pointer (some ⟨g, 0, none⟩)) (hy : a.eval y = .agg vs) (hi : (Tryz.prog.info? ty).map (·.size) = some vs.size) (h1 : vs.all (·.oneCell') = true)
  {cs : Array Value} {T : TypeId} (hg : w.heap[g]? = some (.cells cs T)) (hs : cs.size = vs.size)
  (h : ∀ w' : World, PutM w w' g (.cells vs T) → K a w') : if Region.wanted o (yielded ops a.tmps) = true then Oper.wp Tryz.prog o a w K Q else E := by
 rw [if_pos hw]
 refine wp_store_row _ x y ho g _ hx hy _ _ hg hi hs h1 ?_
 rw [hd]
 exact h _ (putM_row hg)
theorem storeW_any {ops : Array Oper} {o : Oper} {a : Act} {K : Act → World → Prop} {Q : Exit → Act → World → Prop} {E : Prop} {w : World} (hw : Region.wanted o (yielded ops a.tmps) = true) (hd : o.dst = none) (x y : Operand) (ty : TypeId) (ho : o.op = .store ty x y)
  (g off : Nat) (vs : Array Value) (hx : a.eval x = .pointer (some ⟨g, off, none⟩)) (hy : a.eval y = .agg vs)
  {cs : Array Value} {T : TypeId} (hg : w.heap[g]? = some (.cells cs T)) (hin : off + vs.size ≤ cs.size) (hi : (Tryz.prog.info? ty).map (·.size) = some vs.size) (h1 : vs.all (·.oneCell') = true)
  (h : ∀ w' : World, PutM w w' g (.cells (setsA cs off vs.toList) T) → K a w') : if Region.wanted o (yielded ops a.tmps) = true then Oper.wp Tryz.prog o a w K Q else E := by
 rw [if_pos hw]
 refine wp_store_mid ty x y ho g off vs hx hy (fun j hj => ?_) hi h1 ?_
 ·
  have hb : off + j < cs.size := by omega
  refine ⟨?_, ?_⟩
  · simp [World.cell?, hg, hb]
  · simp [World.frozen?, hg]
 ·
  rw [hd]
  exact h _ (putM_mid _ _ _ _ hg)
theorem storeU_any {ops : Array Oper} {o : Oper} {a : Act} {K : Act → World → Prop} {Q : Exit → Act → World → Prop} {E : Prop} {w : World} (hw : Region.wanted o (yielded ops a.tmps) = true) (hd : o.dst = none) (x y : Operand) (ty : TypeId) (ho : o.op = .store ty x y) (hty : ty = 35)
  (g i n c : Nat) (q : Option Addr) (hx : a.eval x = .pointer (some ⟨g, i, none⟩)) (hy : a.eval y = .slice q n c)
  {cs : Array Value} {T : TypeId} (hg : w.heap[g]? = some (.cells cs T)) (hi : i < cs.size)
  (h : ∀ w' : World, PutM w w' g (.cells (cs.setIfInBounds i (.slice q n c)) T) → K a w') : if Region.wanted o (yielded ops a.tmps) = true then Oper.wp Tryz.prog o a w K Q else E := by
 subst hty
 rw [if_pos hw]
 unfold Oper.wp
 simp only [execOp, ho, hx, hy, Sem.run_bind, storeL_run hg hi, Result.andThen, Sem.run_pure]
 unfold Oper.upon
 show K (a.put o.dst undef) _
 rw [hd]
 exact h _ (putM_set hg)
theorem storeG_any {ops : Array Oper} {o : Oper} {a : Act} {K : Act → World → Prop} {Q : Exit → Act → World → Prop} {E : Prop} {w : World} (hw : Region.wanted o (yielded ops a.tmps) = true) (hd : o.dst = none) (x y : Operand) (ty : TypeId) (ho : o.op = .store ty x y)
  (g : Nat) (v0 v1 : Value) (hx : a.eval x = .pointer (some ⟨g, 8, none⟩)) (hy : a.eval y = .agg #[v0, v1])
  {u0 u1 u2 u3 u4 u5 u6 u7 u8 u9 u10 u11 u12 u13 u14 u15 u16 : Value} {T : TypeId} (hg : w.heap[g]? = some (.cells #[u0, u1, u2, u3, u4, u5, u6, u7, u8, u9, u10, u11, u12, u13, u14, u15, u16] T)) (hi : (Tryz.prog.info? ty).map (·.size) = some 2) (h1 : (#[v0, v1] : Array Value).all (·.oneCell') = true)
  (h : ∀ w' : World, PutM w w' g (.cells #[u0, u1, u2, u3, u4, u5, u6, u7, v0, v1, u10, u11, u12, u13, u14, u15, u16] T) → K a w') : if Region.wanted o (yielded ops a.tmps) = true then Oper.wp Tryz.prog o a w K Q else E := by
 refine storeW_any hw hd x y ty ho g 8 #[v0, v1] hx hy hg (by simp) (by rw [hi]; rfl) h1 fun w' hp => h w' ?_
 have e := sets_Guard u0 u1 u2 u3 u4 u5 u6 u7 u8 u9 u10 u11 u12 u13 u14 u15 u16 v0 v1
 rw [← e]
 exact hp
theorem appY_any {ops : Array Oper} {o : Oper} {a : Act} {K : Act → World → Prop} {Q : Exit → Act → World → Prop} {E : Prop} {W : World} (hw : Region.wanted o (yielded ops a.tmps) = true) (s x : Operand)
  (ho : o.op = .call { callee := .builtin .append, args := #[s, x], argTypes := #[35, 35] }) (B g n c : Nat) (l : List Tk3) (q : Option Addr) (m cx : Nat) (l' : List Tk3)
  (hs : a.eval s = .slice (some ⟨g, 0, none⟩) n c) (hx : a.eval x = .slice q m cx) (hown : OwnU W B g n c l) (hl : l'.length = m) (hq : q = none → m = 0 ∧ cx = 0) (hr : RdY W q l') (hn : n + m ≤ 3000000) (hB : B ≤ W.heap.size)
  (h : ∀ g' c' w', OwnU w' B g' (n + m) c' (l ++ l') → W.grownBy w' (some g) → K (a.put o.dst (.slice (some ⟨g', 0, none⟩) (n + m) c')) w') : if Region.wanted o (yielded ops a.tmps) = true then Oper.wp Tryz.prog o a W K Q else E := by
 rw [if_pos hw]
 exact wpY W s x ho B g n c l q m cx l' hs hx hown hl hq hr hn hB h
theorem fld0d (x y z : Value) (w : World) : (Instr.field 119 (.agg #[x, y, z]) 0).run Tryz.prog w = .ok x w := by kernel_rfl
theorem fld1d (x y z : Value) (w : World) : (Instr.field 119 (.agg #[x, y, z]) 1).run Tryz.prog w = .ok y w := by kernel_rfl
theorem fld2d (x y z : Value) (w : World) : (Instr.field 119 (.agg #[x, y, z]) 2).run Tryz.prog w = .ok z w := by kernel_rfl
theorem grw_trans {w w' w2 : World} {r : Option Nat} (h : w.grownBy w' r) (k : w'.grownBy w2 r) : w.grownBy w2 r :=
 ⟨k.os.trans h.os, k.tape.trans h.tape, k.output.trans h.output, Nat.le_trans h.size k.size, fun i hi hr => (k.block i (Nat.lt_of_lt_of_le hi h.size) hr).trans (h.block i hi hr)⟩
theorem two_ne {w : World} {B C e f z y n q : Nat} {v u : Value} {xs ys : List Value} (h : w.ownsRow B e z v n xs) (h2 : w.ownsRow C f y u q ys) (hT : e ≠ f) : ∀ g j, v.ownBlock = some g → u.ownBlock = some j → g ≠ j := by
 intro g j hg hj
 rcases h2.2 with ⟨hv, _⟩ | ⟨g', cap, cur, hv, _, hh, _⟩
 · subst hv; cases hj
 ·
  subst hv
  cases hj
  exact own_ne h hh hT g hg
def KC (w : World) (k : Nat) (x y : Value) : Prop := w.cell? ⟨k, 9, none⟩ = some x ∧ w.cell? ⟨k, 0, none⟩ = some y
theorem kc_of {w : World} {k : Nat} {T : TypeId} {u0 u1 u2 u3 u4 u5 u6 u7 u8 u9 u10 u11 u12 u13 u14 u15 u16 : Value} (h : w.heap[k]? = some (.cells #[u0, u1, u2, u3, u4, u5, u6, u7, u8, u9, u10, u11, u12, u13, u14, u15, u16] T)) : KC w k u9 u0 := by
 refine ⟨?_, ?_⟩ <;> simp [World.cell?, h]
def KT (w w' : World) (k : Nat) (o : Obj) (j : Nat) (o2 : Obj) (C : Nat) (A : Option Addr) (q c : Nat) (os : List Od4) : Prop := w'.heap[k]? = some o ∧ w'.heap[j]? = some o2 ∧ OwnA w' C A q c os ∧ w.grownBy w' (some k)
theorem KT.on {w w' w2 : World} {k j C q c : Nat} {o o2 : Obj} {A : Option Addr} {os : List Od4} (h : KT w w' k o j o2 C A q c os) (hb : Below w'.heap.size w' w2) : KT w w2 k o j o2 C A q c os := ⟨row_on h.1 hb, row_on h.2.1 hb, h.2.2.1.on hb, grw_on h.2.2.2 hb⟩
theorem KT.newP {w w' w2 : World} {k j C q c V : Nat} {o o2 ob : Obj} {A : Option Addr} {os : List Od4} {cs : Array Value} (h : KT w w' k o j o2 C A q c os) (hp : PutM w' w2 V ob) (hV : w'.heap[V]? = some (.cells cs 29)) (hw : w.heap.size ≤ V) (hk : k < V) (hj : j < V) : KT w w2 k o j o2 C A q c os :=
 ⟨hp.far h.1 (by omega), hp.far h.2.1 (by omega), own_putM h.2.2.1 hp (own_ne h.2.2.1 hV (by decide)), grw_new h.2.2.2 hp hw⟩
theorem aqTkAI {p : Prop} (h : p) : Hid p := h
theorem takeAllI (k : Nat) (p : Pm) (pv : Value) (al : Int) (m : Mn) (tv : Value) (rf : Int) (C : Nat) (A : Option Addr) (q c : Nat) (os : List Od4) (hp : p.ok) (hos : ∀ o ∈ os, OrdR o.1 o.2.1 o.2.2.1 o.2.2.2) (hq : os.length = q) (hq2 : q ≤ 1048576) (hr0 : 0 ≤ rf) (hr1 : rf ≤ 999999900) (hq3 : q ≤ 90) (P2 : Pm) (R2 : Int) (s2 : Bool) (hT : takeL ⟨p, rf, false⟩ os = ⟨P2, R2, s2⟩) (w : World) (hX : w.heap[k]? = some (.cells #[.int .i64 p.s, .int .i64 p.n, .int .i64 p.d, .int .i64 p.r, .int .i64 p.l, .int .i64 p.b, .int .i64 p.g, .int .i64 p.k, pv, .int .i64 al, .int .i64 m.a, .bool m.b, .int .i64 m.n, .int .i64 m.d, .string ⟨m.s.toArray⟩, tv, .int .i64 rf] 112)) (hO : OwnA w C A q c os) :
  Calls Tryz.prog 79 #[.pointer (some ⟨k, 0, none⟩), .slice A q c] w fun e w' => e = .returned (.bool s2) ∧ w'.heap[k]? = some (.cells #[.int .i64 P2.s, .int .i64 P2.n, .int .i64 P2.d, .int .i64 P2.r, .int .i64 P2.l, .int .i64 P2.b, .int .i64 P2.g, .int .i64 P2.k, pv, .int .i64 al, .int .i64 m.a, .bool m.b, .int .i64 m.n, .int .i64 m.d, .string ⟨m.s.toArray⟩, tv, .int .i64 R2] 112) ∧ w.grownBy w' (some k) := by
 have HX := aqTkAI hX
 have HO := aqTkAI hO
 have HQ := aqTkAI hq
 have HP : Hid p.ok := hp
 have HOS := aqTkAI hos
 have HT := aqTkAI hT
 clear hX hO hq hp hos hT
 go_enter Tryz.func79, Tryz.ntmps79
 go_wp2_with fail
 go_loopg [5, 12] q (fun gk s i wr => ∃ (j : Nat) (P : Pm) (R : Int) (sb : Bool), j + gk = q ∧ s = .bool sb ∧ i = .int .i64 j ∧ Hid (takeL ⟨p, rf, false⟩ (os.take j) = ⟨P, R, sb⟩) ∧ Hid (wr.heap[k]? = some (.cells #[.int .i64 P.s, .int .i64 P.n, .int .i64 P.d, .int .i64 P.r, .int .i64 P.l, .int .i64 P.b, .int .i64 P.g, .int .i64 P.k, pv, .int .i64 al, .int .i64 m.a, .bool m.b, .int .i64 m.n, .int .i64 m.d, .string ⟨m.s.toArray⟩, tv, .int .i64 R] 112)) ∧ Hid (OwnA wr C A q c os) ∧ Hid (w.grownBy wr (some k)))
 case atStart => exact ⟨0, p, rf, false, by omega, rfl, rfl, rfl, HX, HO, grw_refl _ _⟩
 case round =>
  clear HX HO
  obtain ⟨j, P, R, sb, hj, rfl, rfl, HTK, HX, HO, HG⟩ := hrel
  by_cases hlt : j < q
  ·
   have hjl : j < os.length := by rw [HQ.out]; exact hlt
   have htk := takeL_ok (os.take j) (x := ⟨p, rf, false⟩) HP.out
   rw [HTK.out] at htk
   have hR0 : 0 ≤ R := by have := htk.2.2.1; dsimp only at this; omega
   have hR1 : R ≤ rf + 90 := by have := htk.2.2.2; rw [List.length_take] at this; dsimp only at this; omega
   have hPok : Hid P.ok := htk.1
   have hnx := takeL_take hjl ⟨p, rf, false⟩
   rw [HTK.out] at hnx
   have hmem := List.getElem_mem hjl
   obtain ⟨⟨ok, on, od, ov⟩, he⟩ : ∃ y, os[j] = y := ⟨_, rfl⟩
   rw [he] at hnx hmem
   have HOR : Hid (OrdR ok on od ov) := HOS.out _ hmem
   have HNX := aqTkAI hnx
   obtain ⟨go, rfl, _⟩ := HO.out.at (by omega)
   have c4 := HO.out.cell4 j hjl
   rw [he] at c4
   dsimp only at c4
   have j0 : (0 : Int) ≤ j := by omega
   have j1 : (j : Int) < q := by omega
   have qj : IntKind.i64.wrap ((j : Int) + 1) = (j : Int) + 1 := wrap_in (by omega) (by omega)
   have qR : IntKind.i64.wrap (R + 1) = R + 1 := wrap_in (by omega) (by omega)
   clear htk hnx hmem
   by_cases h5 : ok = 5
   ·
    have HTK2 : Hid (takeL ⟨p, rf, false⟩ (os.take (j + 1)) = ⟨P, R, true⟩) := by show _ = _; rw [HNX.out, stepK_seen h5]
    subst h5
    clear HNX HTK he hR0 hR1 qR
    go_wp2
    go_roundg (gk - 1)
    case measure => omega
    case rel => exact ⟨j + 1, P, R, true, by omega, rfl, by go_num, HTK2, row_on HX.out (alM _ _), HO.out.on (alM _ _), grw_on HG.out (alM _ _)⟩
   ·
    have q5 : (ok == 5) = false := by simpa using h5
    obtain ⟨⟨P2', B2⟩, hT⟩ : ∃ y, P.take ok on od ov = y := ⟨_, rfl⟩
    have HT2 := aqTkAI hT
    have HTK2 : Hid (takeL ⟨p, rf, false⟩ (os.take (j + 1)) = ⟨P2', if B2 = true then R else R + 1, sb⟩) := by show _ = _; rw [HNX.out, stepK_take h5]; dsimp only; rw [hT]
    obtain ⟨F0, F1, F2, hSt⟩ := stateW P hPok.out
    have HST := aqTkAI hSt
    clear HNX HTK he hT h5 hSt
    go_upto_region 5 with fail
    obtain ⟨W1, hW1⟩ : ∃ W1, wr.alloc (oB ok on od ov) = W1 := ⟨_, rfl⟩
    obtain ⟨V7, hV7⟩ : ∃ V7, wr.heap.size = V7 := ⟨_, rfl⟩
    have HK0 : Hid (KT w W1 k (.cells #[.int .i64 P.s, .int .i64 P.n, .int .i64 P.d, .int .i64 P.r, .int .i64 P.l, .int .i64 P.b, .int .i64 P.g, .int .i64 P.k, pv, .int .i64 al, .int .i64 m.a, .bool m.b, .int .i64 m.n, .int .i64 m.d, .string ⟨m.s.toArray⟩, tv, .int .i64 R] 112) V7 (oB ok on od ov) C (some ⟨go, 0, none⟩) q c os) := by
     show KT w W1 k (.cells #[.int .i64 P.s, .int .i64 P.n, .int .i64 P.d, .int .i64 P.r, .int .i64 P.l, .int .i64 P.b, .int .i64 P.g, .int .i64 P.k, pv, .int .i64 al, .int .i64 m.a, .bool m.b, .int .i64 m.n, .int .i64 m.d, .string ⟨m.s.toArray⟩, tv, .int .i64 R] 112) V7 (oB ok on od ov) C (some ⟨go, 0, none⟩) q c os
     rw [← hW1, ← hV7]
     exact ⟨row_on HX.out (alM _ _), heap_new wr _, HO.out.on (alM _ _), grw_on HG.out (alM _ _)⟩
    have hk7 : k < V7 := by rw [← hV7]; exact row_lt HX.out
    have hw7 : w.heap.size ≤ V7 := by rw [← hV7]; exact HG.out.size
    have e4 := box4_cells HK0.out.2.1
    (try rw [hW1])
    (try rw [hV7])
    clear hW1 hV7 c4 HX HO HG
    go_upto_region 7 with fail
    clear e4
    go_cut [8, 9] from 13 to 43 (fun v8 v9 wd => ∃ V : Nat, v8 = .pointer (some ⟨V, 0, none⟩) ∧ v9 = .bool B2 ∧ V7 < V ∧ Hid (KT w wd k (.cells #[.int .i64 P.s, .int .i64 P.n, .int .i64 P.d, .int .i64 P.r, .int .i64 P.l, .int .i64 P.b, .int .i64 P.g, .int .i64 P.k, pv, .int .i64 al, .int .i64 m.a, .bool m.b, .int .i64 m.n, .int .i64 m.d, .string ⟨m.s.toArray⟩, tv, .int .i64 R] 112) V7 (oB ok on od ov) C (some ⟨go, 0, none⟩) q c os) ∧ Hid (wd.heap[V]? = some (.cells #[.int .i64 P2'.s, .int .i64 P2'.n, .int .i64 P2'.d, .int .i64 P2'.r, .int .i64 P2'.l, .int .i64 P2'.b, .int .i64 P2'.g, .int .i64 P2'.k] 29)))
    case first =>
     have HK1 : KT w W1.drew k (.cells #[.int .i64 P.s, .int .i64 P.n, .int .i64 P.d, .int .i64 P.r, .int .i64 P.l, .int .i64 P.b, .int .i64 P.g, .int .i64 P.k, pv, .int .i64 al, .int .i64 m.a, .bool m.b, .int .i64 m.n, .int .i64 m.d, .string ⟨m.s.toArray⟩, tv, .int .i64 R] 112) V7 (oB ok on od ov) C (some ⟨go, 0, none⟩) q c os := ⟨HK0.out.1, HK0.out.2.1, HK0.out.2.2.1.drew, grw_drew HK0.out.2.2.2⟩
     refine wp_region_held_drew (S := fun w' => KT w w' k (.cells #[.int .i64 P.s, .int .i64 P.n, .int .i64 P.d, .int .i64 P.r, .int .i64 P.l, .int .i64 P.b, .int .i64 P.g, .int .i64 P.k, pv, .int .i64 al, .int .i64 m.a, .bool m.b, .int .i64 m.n, .int .i64 m.d, .string ⟨m.s.toArray⟩, tv, .int .i64 R] 112) V7 (oB ok on od ov) C (some ⟨go, 0, none⟩) q c os) (by kernel_rfl) HK1 (fun hHeld => ?_)
     obtain ⟨v0, hv0⟩ : ∃ v0, W1.drew = v0 := ⟨_, rfl⟩
     rw [hv0] at HK1 hHeld ⊢
     clear hv0 HK0
     refine tkQ 0 ?_ rfl ?_ ?_
     rotate_left
     · intro w_ hSw; clear hSw; (try clear hHeld); go_simp <;> with_reducible rfl
     try simp only [Act.put, sQ]
     refine tkQ 1 ?_ rfl ?_ ?_
     rotate_left
     · intro w_ hSw; clear hSw; (try clear hHeld); go_simp <;> with_reducible rfl
     try simp only [Act.put, sQ]
     refine tkQ 2 ?_ rfl ?_ ?_
     rotate_left
     · intro w_ hSw; clear hSw; (try clear hHeld); go_simp <;> with_reducible rfl
     try simp only [Act.put, sQ]
     refine tkQ 3 ?_ rfl ?_ ?_
     rotate_left
     · intro w_ hSw; (try dsimp only at hSw); have f0 := box17_cells hSw.1; clear hSw; (try clear hHeld); go_simp <;> with_reducible rfl
     try simp only [Act.put, sQ]
     refine tkQ 6 ?_ rfl ?_ ?_
     rotate_left
     · intro w_ hSw; (try dsimp only at hSw); have f0 := box4_cells hSw.2.1; clear hSw; (try clear hHeld); go_simp <;> with_reducible rfl
     try simp only [Act.put, sQ]
     have HK0 := HK1
     clear HK1
     refine wpAnyH_ready (rs := [4, 11]) (by kernel_rfl) (by simp) ?_
     refine (AllReadyH.cons rfl (fun J hJ => ?_) (AllReadyH.cons rfl (fun J hJ => ?_) AllReadyH.nil))
     ·
      go_simp
      go_at_call 83
      refine (HST.out.st _).mono ?_
      rintro e v1 ⟨rfl, hbc⟩
      have HK1 := HK0.on hbc
      have hsz1 : V7 < v1.heap.size := row_lt HK1.2.1
      clear hbc HK0
      go_wp2_with fail
      refine hJ.out _ _ HK1 (fun hHeld => ?_)
      clear hJ J
      try simp only [Act.put, sQ]
      refine tkQ 5 ?_ rfl ?_ ?_
      rotate_left
      · intro w_ hSw; (try dsimp only at hSw); have g0 := fld0d; clear hSw; (try clear hHeld); go_simp <;> with_reducible rfl
      try simp only [Act.put, sQ]
      refine wpAnyH_ready (rs := [7, 11]) (by kernel_rfl) (by simp) ?_
      refine (AllReadyH.cons rfl (fun J hJ => ?_) (AllReadyH.cons rfl (fun J hJ => ?_) AllReadyH.nil))
      ·
       go_simp
       rw [HST.out.ct]
       show Calls Tryz.prog F0 _ _ _
       refine (HST.out.tk ok on od ov _ HOR.out).mono ?_
       rintro e v2 ⟨rfl, hbc⟩
       rw [HT2.out]
       have HK2 := HK1.on hbc
       have hsz2 : V7 < v2.heap.size := row_lt HK2.2.1
       clear hbc HK1
       unfold Pm.V PV
       dsimp only
       go_wp2_with fail
       refine hJ.out _ _ HK2 (fun hHeld => ?_)
       clear hJ J
       try simp only [Act.put, sQ]
       refine tkQ 8 ?_ rfl ?_ ?_
       rotate_left
       · intro w_ hSw; clear hSw; (try clear hHeld); go_simp <;> with_reducible rfl
       try simp only [Act.put, sQ]
       refine tkQ 9 ?_ rfl ?_ ?_
       rotate_left
       · intro w_ hSw; clear hSw; (try clear hHeld); go_simp <;> with_reducible rfl
       try simp only [Act.put, sQ]
       refine tkQ 10 ?_ rfl ?_ ?_
       rotate_left
       · intro w_ hSw; clear hSw; (try clear hHeld); go_simp <;> with_reducible rfl
       try simp only [Act.put, sQ]
       refine wpAnyH_ready (rs := [11]) (by kernel_rfl) (by simp) ?_
       refine (AllReadyH.cons rfl (fun J hJ => ?_) AllReadyH.nil)
       go_simp
       have hsz3 : V7 < v2.heap.size := row_lt HK2.2.1
       have HK3 := HK2.on (alM v2 (.cells #[.int .i64 0, .int .i64 0, .int .i64 0, .int .i64 0, .int .i64 0, .int .i64 0, .int .i64 0, .int .i64 0] 29))
       have HV3 : Hid ((v2.alloc (.cells #[.int .i64 0, .int .i64 0, .int .i64 0, .int .i64 0, .int .i64 0, .int .i64 0, .int .i64 0, .int .i64 0] 29)).heap[v2.heap.size]? = some (.cells #[.int .i64 0, .int .i64 0, .int .i64 0, .int .i64 0, .int .i64 0, .int .i64 0, .int .i64 0, .int .i64 0] 29)) := heap_new v2 _
       refine hJ.out _ _ HK3 (fun hHeld => ?_)
       clear hJ J HK2
       try simp only [Act.put, sQ]
       generalize v2.alloc (.cells #[.int .i64 0, .int .i64 0, .int .i64 0, .int .i64 0, .int .i64 0, .int .i64 0, .int .i64 0, .int .i64 0] 29) = v3 at *
       generalize v2.heap.size = V at *
       refine wpAnyH_ready (rs := [12]) (by kernel_rfl) (by simp) ?_
       refine AllReadyH.cons rfl (fun J hJ => ?_) AllReadyH.nil
       refine storeR_any rfl rfl _ _ _ rfl V #[.int .i64 P2'.s, .int .i64 P2'.n, .int .i64 P2'.d, .int .i64 P2'.r, .int .i64 P2'.l, .int .i64 P2'.b, .int .i64 P2'.g, .int .i64 P2'.k] rfl rfl (by kernel_rfl) (by kernel_rfl) HV3.out rfl ?_
       intro v9 hput
       have HK9 : KT w v9 k (.cells #[.int .i64 P.s, .int .i64 P.n, .int .i64 P.d, .int .i64 P.r, .int .i64 P.l, .int .i64 P.b, .int .i64 P.g, .int .i64 P.k, pv, .int .i64 al, .int .i64 m.a, .bool m.b, .int .i64 m.n, .int .i64 m.d, .string ⟨m.s.toArray⟩, tv, .int .i64 R] 112) V7 (oB ok on od ov) C (some ⟨go, 0, none⟩) q c os := HK3.newP hput HV3.out (by omega) (by omega) (by omega)
       have HV9 := aqTkAI hput.1
       clear hput HK3 HV3
       refine hJ.out _ _ HK9 (fun hHeld => ?_)
       clear hJ J
       try simp only [Act.put, sQ]
       refine tkQ 13 ?_ rfl ?_ ?_
       rotate_left
       · intro w_ hSw; clear hSw; (try clear hHeld); go_simp <;> with_reducible rfl
       try simp only [Act.put, sQ]
       clear hHeld
       refine wpAnyH_done (by kernel_rfl) ?_ _
       (try go_wp2_with fail)
       go_meet
       exact ⟨V, rfl, rfl, by omega, HK9, HV9⟩
      ·
       go_simp
       have hsz2 : V7 < v1.heap.size := row_lt HK1.2.1
       have HK2 := HK1.on (alM v1 (.cells #[.int .i64 0, .int .i64 0, .int .i64 0, .int .i64 0, .int .i64 0, .int .i64 0, .int .i64 0, .int .i64 0] 29))
       have HV2 : Hid ((v1.alloc (.cells #[.int .i64 0, .int .i64 0, .int .i64 0, .int .i64 0, .int .i64 0, .int .i64 0, .int .i64 0, .int .i64 0] 29)).heap[v1.heap.size]? = some (.cells #[.int .i64 0, .int .i64 0, .int .i64 0, .int .i64 0, .int .i64 0, .int .i64 0, .int .i64 0, .int .i64 0] 29)) := heap_new v1 _
       refine hJ.out _ _ HK2 (fun hHeld => ?_)
       clear hJ J HK1
       try simp only [Act.put, sQ]
       generalize v1.alloc (.cells #[.int .i64 0, .int .i64 0, .int .i64 0, .int .i64 0, .int .i64 0, .int .i64 0, .int .i64 0, .int .i64 0] 29) = v2 at *
       generalize v1.heap.size = V at *
       refine wpAnyH_ready (rs := [7]) (by kernel_rfl) (by simp) ?_
       refine (AllReadyH.cons rfl (fun J hJ => ?_) AllReadyH.nil)
       go_simp
       rw [HST.out.ct]
       show Calls Tryz.prog F0 _ _ _
       refine (HST.out.tk ok on od ov _ HOR.out).mono ?_
       rintro e v3 ⟨rfl, hbc⟩
       rw [HT2.out]
       have HK3 := HK2.on hbc
       have HV3 := rq HV2 hbc
       clear hbc HK2 HV2
       unfold Pm.V PV
       dsimp only
       go_wp2_with fail
       refine hJ.out _ _ HK3 (fun hHeld => ?_)
       clear hJ J
       try simp only [Act.put, sQ]
       refine tkQ 8 ?_ rfl ?_ ?_
       rotate_left
       · intro w_ hSw; clear hSw; (try clear hHeld); go_simp <;> with_reducible rfl
       try simp only [Act.put, sQ]
       refine tkQ 9 ?_ rfl ?_ ?_
       rotate_left
       · intro w_ hSw; clear hSw; (try clear hHeld); go_simp <;> with_reducible rfl
       try simp only [Act.put, sQ]
       refine tkQ 10 ?_ rfl ?_ ?_
       rotate_left
       · intro w_ hSw; clear hSw; (try clear hHeld); go_simp <;> with_reducible rfl
       try simp only [Act.put, sQ]
       refine wpAnyH_ready (rs := [12]) (by kernel_rfl) (by simp) ?_
       refine AllReadyH.cons rfl (fun J hJ => ?_) AllReadyH.nil
       refine storeR_any rfl rfl _ _ _ rfl V #[.int .i64 P2'.s, .int .i64 P2'.n, .int .i64 P2'.d, .int .i64 P2'.r, .int .i64 P2'.l, .int .i64 P2'.b, .int .i64 P2'.g, .int .i64 P2'.k] rfl rfl (by kernel_rfl) (by kernel_rfl) HV3.out rfl ?_
       intro v9 hput
       have HK9 : KT w v9 k (.cells #[.int .i64 P.s, .int .i64 P.n, .int .i64 P.d, .int .i64 P.r, .int .i64 P.l, .int .i64 P.b, .int .i64 P.g, .int .i64 P.k, pv, .int .i64 al, .int .i64 m.a, .bool m.b, .int .i64 m.n, .int .i64 m.d, .string ⟨m.s.toArray⟩, tv, .int .i64 R] 112) V7 (oB ok on od ov) C (some ⟨go, 0, none⟩) q c os := HK3.newP hput HV3.out (by omega) (by omega) (by omega)
       have HV9 := aqTkAI hput.1
       clear hput HK3 HV3
       refine hJ.out _ _ HK9 (fun hHeld => ?_)
       clear hJ J
       try simp only [Act.put, sQ]
       refine tkQ 13 ?_ rfl ?_ ?_
       rotate_left
       · intro w_ hSw; clear hSw; (try clear hHeld); go_simp <;> with_reducible rfl
       try simp only [Act.put, sQ]
       clear hHeld
       refine wpAnyH_done (by kernel_rfl) ?_ _
       (try go_wp2_with fail)
       go_meet
       exact ⟨V, rfl, rfl, by omega, HK9, HV9⟩
     ·
      go_simp
      have hsz1 : V7 < v0.heap.size := row_lt HK0.2.1
      have HK1 := HK0.on (alM v0 (.cells #[.int .i64 0, .int .i64 0, .int .i64 0, .int .i64 0, .int .i64 0, .int .i64 0, .int .i64 0, .int .i64 0] 29))
      have HV1 : Hid ((v0.alloc (.cells #[.int .i64 0, .int .i64 0, .int .i64 0, .int .i64 0, .int .i64 0, .int .i64 0, .int .i64 0, .int .i64 0] 29)).heap[v0.heap.size]? = some (.cells #[.int .i64 0, .int .i64 0, .int .i64 0, .int .i64 0, .int .i64 0, .int .i64 0, .int .i64 0, .int .i64 0] 29)) := heap_new v0 _
      refine hJ.out _ _ HK1 (fun hHeld => ?_)
      clear hJ J HK0
      try simp only [Act.put, sQ]
      generalize v0.alloc (.cells #[.int .i64 0, .int .i64 0, .int .i64 0, .int .i64 0, .int .i64 0, .int .i64 0, .int .i64 0, .int .i64 0] 29) = v1 at *
      generalize v0.heap.size = V at *
      refine wpAnyH_ready (rs := [4]) (by kernel_rfl) (by simp) ?_
      refine (AllReadyH.cons rfl (fun J hJ => ?_) AllReadyH.nil)
      go_simp
      go_at_call 83
      refine (HST.out.st _).mono ?_
      rintro e v2 ⟨rfl, hbc⟩
      have HK2 := HK1.on hbc
      have HV2 := rq HV1 hbc
      clear hbc HK1 HV1
      go_wp2_with fail
      refine hJ.out _ _ HK2 (fun hHeld => ?_)
      clear hJ J
      try simp only [Act.put, sQ]
      refine tkQ 5 ?_ rfl ?_ ?_
      rotate_left
      · intro w_ hSw; (try dsimp only at hSw); have g0 := fld0d; clear hSw; (try clear hHeld); go_simp <;> with_reducible rfl
      try simp only [Act.put, sQ]
      refine wpAnyH_ready (rs := [7]) (by kernel_rfl) (by simp) ?_
      refine (AllReadyH.cons rfl (fun J hJ => ?_) AllReadyH.nil)
      go_simp
      rw [HST.out.ct]
      show Calls Tryz.prog F0 _ _ _
      refine (HST.out.tk ok on od ov _ HOR.out).mono ?_
      rintro e v3 ⟨rfl, hbc⟩
      rw [HT2.out]
      have HK3 := HK2.on hbc
      have HV3 := rq HV2 hbc
      clear hbc HK2 HV2
      unfold Pm.V PV
      dsimp only
      go_wp2_with fail
      refine hJ.out _ _ HK3 (fun hHeld => ?_)
      clear hJ J
      try simp only [Act.put, sQ]
      refine tkQ 8 ?_ rfl ?_ ?_
      rotate_left
      · intro w_ hSw; clear hSw; (try clear hHeld); go_simp <;> with_reducible rfl
      try simp only [Act.put, sQ]
      refine tkQ 9 ?_ rfl ?_ ?_
      rotate_left
      · intro w_ hSw; clear hSw; (try clear hHeld); go_simp <;> with_reducible rfl
      try simp only [Act.put, sQ]
      refine tkQ 10 ?_ rfl ?_ ?_
      rotate_left
      · intro w_ hSw; clear hSw; (try clear hHeld); go_simp <;> with_reducible rfl
      try simp only [Act.put, sQ]
      refine wpAnyH_ready (rs := [12]) (by kernel_rfl) (by simp) ?_
      refine AllReadyH.cons rfl (fun J hJ => ?_) AllReadyH.nil
      refine storeR_any rfl rfl _ _ _ rfl V #[.int .i64 P2'.s, .int .i64 P2'.n, .int .i64 P2'.d, .int .i64 P2'.r, .int .i64 P2'.l, .int .i64 P2'.b, .int .i64 P2'.g, .int .i64 P2'.k] rfl rfl (by kernel_rfl) (by kernel_rfl) HV3.out rfl ?_
      intro v9 hput
      have HK9 : KT w v9 k (.cells #[.int .i64 P.s, .int .i64 P.n, .int .i64 P.d, .int .i64 P.r, .int .i64 P.l, .int .i64 P.b, .int .i64 P.g, .int .i64 P.k, pv, .int .i64 al, .int .i64 m.a, .bool m.b, .int .i64 m.n, .int .i64 m.d, .string ⟨m.s.toArray⟩, tv, .int .i64 R] 112) V7 (oB ok on od ov) C (some ⟨go, 0, none⟩) q c os := HK3.newP hput HV3.out (by omega) (by omega) (by omega)
      have HV9 := aqTkAI hput.1
      clear hput HK3 HV3
      refine hJ.out _ _ HK9 (fun hHeld => ?_)
      clear hJ J
      try simp only [Act.put, sQ]
      refine tkQ 13 ?_ rfl ?_ ?_
      rotate_left
      · intro w_ hSw; clear hSw; (try clear hHeld); go_simp <;> with_reducible rfl
      try simp only [Act.put, sQ]
      clear hHeld
      refine wpAnyH_done (by kernel_rfl) ?_ _
      (try go_wp2_with fail)
      go_meet
      exact ⟨V, rfl, rfl, by omega, HK9, HV9⟩
    case rest =>
     obtain ⟨V, rfl, rfl, hVV, HK2, HV⟩ := hcut
     have y := box8_cells HV.out
     have c9 := box17_cells HK2.out.1
     cases B2
     ·
      have HTK3 : Hid (takeL ⟨p, rf, false⟩ (os.take (j + 1)) = ⟨P2', R + 1, sb⟩) := HTK2.out
      go_upto_region 9 with fail
      go_wp2_with (refine listStoreI rfl rfl _ _ _ rfl rfl k 16 (R + 1) rfl rfl HK2.out.1 (by simp) ?_)
      intro w3 hput
      have HX3 := aqTkAI hput.1
      have HO3 : Hid (OwnA w3 C (some ⟨go, 0, none⟩) q c os) := own_putM HK2.out.2.2.1 hput (own_ne HK2.out.2.2.1 HK2.out.1 (by decide))
      have HG3 : Hid (w.grownBy w3 (some k)) := grw_put HK2.out.2.2.2 hput
      have HV3 := aqTkAI (hput.far HV.out (by omega))
      have y3 := box8_cells HV3.out
      clear hput HK2 HV y c9
      go_upto_region 10 with fail
      go_wp2_with (refine listPump rfl rfl _ _ _ rfl k (.int .i64 P2'.s) (.int .i64 P2'.n) (.int .i64 P2'.d) (.int .i64 P2'.r) (.int .i64 P2'.l) (.int .i64 P2'.b) (.int .i64 P2'.g) (.int .i64 P2'.k) rfl rfl HX3.out (by kernel_rfl) (by kernel_rfl) ?_)
      intro w4 hput
      have HX4 := aqTkAI hput.1
      have HO4 : Hid (OwnA w4 C (some ⟨go, 0, none⟩) q c os) := own_putM HO3.out hput (own_ne HO3.out HX3.out (by decide))
      have HG4 : Hid (w.grownBy w4 (some k)) := grw_put HG3.out hput
      clear hput HX3 HO3 HG3 HV3 y3 HTK2
      go_wp2
      go_roundg (gk - 1)
      case measure => omega
      case rel => exact ⟨j + 1, P2', R + 1, sb, by omega, rfl, by go_num, HTK3, HX4, HO4, HG4⟩
     ·
      have HTK3 : Hid (takeL ⟨p, rf, false⟩ (os.take (j + 1)) = ⟨P2', R, sb⟩) := HTK2.out
      go_upto_region 10 with fail
      go_wp2_with (refine listPump rfl rfl _ _ _ rfl k (.int .i64 P2'.s) (.int .i64 P2'.n) (.int .i64 P2'.d) (.int .i64 P2'.r) (.int .i64 P2'.l) (.int .i64 P2'.b) (.int .i64 P2'.g) (.int .i64 P2'.k) rfl rfl HK2.out.1 (by kernel_rfl) (by kernel_rfl) ?_)
      intro w4 hput
      have HX4 := aqTkAI hput.1
      have HO4 : Hid (OwnA w4 C (some ⟨go, 0, none⟩) q c os) := own_putM HK2.out.2.2.1 hput (own_ne HK2.out.2.2.1 HK2.out.1 (by decide))
      have HG4 : Hid (w.grownBy w4 (some k)) := grw_put HK2.out.2.2.2 hput
      clear hput HK2 HV y c9 HTK2
      go_wp2
      go_roundg (gk - 1)
      case measure => omega
      case rel => exact ⟨j + 1, P2', R, sb, by omega, rfl, by go_num, HTK3, HX4, HO4, HG4⟩
  ·
   have hTF := HTK.out
   rw [List.take_of_length_le (by rw [HQ.out]; omega), HT.out] at hTF
   obtain ⟨rfl, rfl, rfl⟩ : P2 = P ∧ R2 = R ∧ s2 = sb := by cases hTF; exact ⟨rfl, rfl, rfl⟩
   clear hTF HTK HT
   have hne : ¬ ((j : Int) < q) := by omega
   go_wp2
   go_ret
   exact ⟨rfl, HX.out, HG.out⟩
end Go.Proofs.YtfhhnelffldggaaGreatDoor
