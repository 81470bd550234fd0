/-
  The mathematics of a device: orders one behind the other, a tick, ticks.
-/
import Derived.Test.YtfhhnelffldggaaGreatDoorUqAC
import Derived.Test.YtfhhnelffldggaaGreatDoorUqAU
import Derived.Test.YtfhhnelffldggaaGreatDoorUqAD
import Derived.Test.YtfhhnelffldggaaGreatDoorUqAI
import Derived.Test.YtfhhnelffldggaaGreatDoorUqAQ
import Derived.Test.YtfhhnelffldggaaGreatDoorUqAG
set_option maxRecDepth 100000
set_option maxHeartbeats 16000000
namespace Go.Proofs.YtfhhnelffldggaaGreatDoor
open Go.RowKit Go.PlainAid
set_option linter.unusedVariables false
set_option linter.unusedSimpArgs false
structure Tks where
 p : Pm
 r : Int
 s : Bool
def stepK (x : Tks) (o : Od4) : Tks := if o.1 = 5 then ⟨x.p, x.r, true⟩ else ⟨(x.p.take o.1 o.2.1 o.2.2.1 o.2.2.2).1, if (x.p.take o.1 o.2.1 o.2.2.1 o.2.2.2).2 = true then x.r else x.r + 1, x.s⟩
def takeL (x : Tks) (l : List Od4) : Tks := l.foldl stepK x
theorem takeL_cons (x : Tks) (o : Od4) (l : List Od4) : takeL x (o :: l) = takeL (stepK x o) l := rfl
theorem takeL_app (x : Tks) (l k : List Od4) : takeL x (l ++ k) = takeL (takeL x l) k := List.foldl_append ..
theorem takeL_take {l : List Od4} {j : Nat} (h : j < l.length) (x : Tks) : takeL x (l.take (j + 1)) = stepK (takeL x (l.take j)) l[j] := by
 rw [← List.take_append_getElem h, takeL_app]
 rfl
theorem stepK_seen {x : Tks} {o : Od4} (h : o.1 = 5) : stepK x o = ⟨x.p, x.r, true⟩ := if_pos h
theorem stepK_take {x : Tks} {o : Od4} (h : ¬ o.1 = 5) : stepK x o = ⟨(x.p.take o.1 o.2.1 o.2.2.1 o.2.2.2).1, if (x.p.take o.1 o.2.1 o.2.2.1 o.2.2.2).2 = true then x.r else x.r + 1, x.s⟩ := if_neg h
theorem take_g (p : Pm) (k n d v : Int) : (p.take k n d v).1.g = p.g := by
 unfold Pm.take
 repeat' split
 all_goals rfl
theorem stepK_ok {x : Tks} (h : x.p.ok) (o : Od4) : (stepK x o).p.ok ∧ (stepK x o).p.g = x.p.g ∧ x.r ≤ (stepK x o).r ∧ (stepK x o).r ≤ x.r + 1 := by
 by_cases h5 : o.1 = 5
 ·
  rw [stepK_seen h5]
  exact ⟨h, rfl, Int.le_refl _, by show x.r ≤ x.r + 1; omega⟩
 ·
  rw [stepK_take h5]
  refine ⟨take_ok h _ _ _ _, take_g _ _ _ _ _, ?_, ?_⟩
  all_goals dsimp only; split <;> omega
theorem takeL_ok : ∀ (l : List Od4) {x : Tks}, x.p.ok → (takeL x l).p.ok ∧ (takeL x l).p.g = x.p.g ∧ x.r ≤ (takeL x l).r ∧ (takeL x l).r ≤ x.r + l.length
 | [], x, h => ⟨h, rfl, Int.le_refl _, by simp [takeL]⟩
 | o :: l, x, h => by
  obtain ⟨h1, h2, h3, h4⟩ := stepK_ok h o
  obtain ⟨g1, g2, g3, g4⟩ := takeL_ok l h1
  rw [takeL_cons]
  refine ⟨g1, g2.trans h2, by omega, ?_⟩
  rw [List.length_cons]
  omega
structure Dv where
 p : Pm
 l : List Int
 al : Int
 m : Mn
 t : List Tk3
 rf : Int
def newD : Dv := ⟨newP, [], 0, newM, [], 0⟩
structure Ic where
 b : Int
 ks : List UInt8
 lo : List Od4
 lr : Int
def ordsD (D : Dv) (i : Ic) : Tks := takeL ⟨D.p, D.rf + i.lr, false⟩ ((allM D.m i.ks).2 ++ i.lo)
def alD (D : Dv) (i : Ic) : Int := G.feelA true D.al i.b (ordsD D i).s
def numD (D : Dv) (i : Ic) : Int := if alD D i = 0 then G.letG D.l (ordsD D i).p.wants else 0
def pmpD (D : Dv) (i : Ic) : Pm := if alD D i = 0 then (ordsD D i).p.give (numD D i) else (ordsD D i).p
def tickD (D : Dv) (i : Ic) : Dv := ⟨pmpD D i, G.passL true D.l (numD D i), alD D i, (allM D.m i.ks).1, D.t ++ [(numD D i, alD D i, (pmpD D i).s)], (ordsD D i).r⟩
def runD (D : Dv) (l : List Ic) : Dv := l.foldl tickD D
theorem runD_cons (D : Dv) (i : Ic) (l : List Ic) : runD D (i :: l) = runD (tickD D i) l := rfl
theorem runD_app (D : Dv) (l k : List Ic) : runD D (l ++ k) = runD (runD D l) k := List.foldl_append ..
theorem runD_take {l : List Ic} {j : Nat} (h : j < l.length) (D : Dv) : runD D (l.take (j + 1)) = tickD (runD D (l.take j)) l[j] := by
 rw [← List.take_append_getElem h, runD_app]
 rfl
def Ic.ok (i : Ic) : Prop := (0 ≤ i.b ∧ i.b ≤ 15) ∧ i.ks.length ≤ 20 ∧ (i.lo = [] ∨ ∃ o, i.lo = [o]) ∧ (0 ≤ i.lr ∧ i.lr ≤ 1) ∧ (∀ o ∈ i.lo, OrdR o.1 o.2.1 o.2.2.1 o.2.2.2)
structure Dv.ok (D : Dv) : Prop where
 p : D.p.ok
 g : G.GdR D.l D.al
 m : GdM D.m
 r : 0 ≤ D.rf
theorem newD_ok : newD.ok := ⟨new_ok, G.gd_new, GdM.new, Int.le_refl _⟩
theorem lo_len {i : Ic} (h : i.ok) : i.lo.length ≤ 1 := by
 rcases h.2.2.1 with e | ⟨o, e⟩ <;> rw [e] <;> simp
theorem ords_ok {D : Dv} (h : D.ok) {i : Ic} (hi : i.ok) : (ordsD D i).p.ok ∧ (ordsD D i).p.g = D.p.g ∧ D.rf ≤ (ordsD D i).r ∧ (ordsD D i).r ≤ D.rf + 22 := by
 obtain ⟨h1, h2, h3, h4⟩ := takeL_ok ((allM D.m i.ks).2 ++ i.lo) (x := ⟨D.p, D.rf + i.lr, false⟩) h.p
 have e1 := allM_len i.ks D.m
 have e2 := lo_len hi
 have e3 := hi.2.1
 have e4 := hi.2.2.2.1
 rw [List.length_append] at h4
 refine ⟨h1, h2, ?_, ?_⟩
 ·
  have : (⟨D.p, D.rf + i.lr, false⟩ : Tks).r ≤ (ordsD D i).r := h3
  dsimp only at this
  omega
 ·
  have : (ordsD D i).r ≤ (⟨D.p, D.rf + i.lr, false⟩ : Tks).r + (((allM D.m i.ks).2.length + i.lo.length : Nat) : Int) := h4
  dsimp only at this
  omega
theorem tick_ok {D : Dv} (h : D.ok) {i : Ic} (hi : i.ok) : (tickD D i).ok ∧ (tickD D i).t.length = D.t.length + 1 ∧ (tickD D i).rf ≤ D.rf + 22 := by
 obtain ⟨h1, h2, h3, h4⟩ := ords_ok h hi
 refine ⟨⟨?_, G.passL_ok (G.feel_ok h.g true i.b _) true _, GdM.all i.ks h.m, ?_⟩, ?_, h4⟩
 ·
  show (pmpD D i).ok
  unfold pmpD
  split
  · exact give_ok h1 _
  · exact h1
 ·
  show 0 ≤ (ordsD D i).r
  have := h.r
  omega
 · simp [tickD]
theorem run_okD : ∀ (l : List Ic) {D : Dv}, D.ok → (∀ i ∈ l, i.ok) → (runD D l).ok ∧ (runD D l).t.length = D.t.length + l.length ∧ (runD D l).rf ≤ D.rf + 22 * l.length
 | [], D, h, _ => ⟨h, rfl, by simp [runD]⟩
 | i :: l, D, h, hl => by
  obtain ⟨h1, h2, h3⟩ := tick_ok h (hl i (List.mem_cons_self ..))
  obtain ⟨g1, g2, g3⟩ := run_okD l h1 (fun j hj => hl j (List.mem_cons_of_mem _ hj))
  rw [runD_cons]
  refine ⟨g1, ?_, ?_⟩
  · rw [g2, h2, List.length_cons]; omega
  ·
   rw [List.length_cons]
   push_cast
   omega
theorem num_bd {D : Dv} (h : D.ok) (i : Ic) : 0 ≤ numD D i ∧ numD D i ≤ 30 ∧ numD D i ≤ (ordsD D i).p.wants := by
 have h1 := wants_bd (ordsD D i).p
 have h2 := G.letG_bd h.g (ordsD D i).p.wants
 unfold numD
 split
 ·
  refine ⟨h2.1, h2.2.2, ?_⟩
  have hs := G.sumN_bd h.g.2.2.1
  unfold G.letG
  omega
 · omega
theorem tick_given {D : Dv} (h : D.ok) {i : Ic} (hi : i.ok) (hg : D.p.g ≤ 999999999990) : (tickD D i).p.g = D.p.g + numD D i := by
 obtain ⟨h1, h2, _, _⟩ := ords_ok h hi
 have hn := num_bd h i
 show (pmpD D i).g = _
 unfold pmpD
 by_cases ha : alD D i = 0
 ·
  rw [if_pos ha]
  unfold Pm.give
  by_cases hr : (ordsD D i).p.okB = true ∧ ((ordsD D i).p.s = 1 ∨ (ordsD D i).p.s = 2)
  ·
   rw [if_pos hr, giveR_g, h2]
   have hw := wants_bd (ordsD D i).p
   omega
  ·
   rw [if_neg hr, h2]
   have : (ordsD D i).p.wants = 0 := by unfold Pm.wants; rw [if_neg hr]
   omega
 ·
  rw [if_neg ha, h2]
  unfold numD
  rw [if_neg ha]
  omega
def sumT : List Tk3 → Int
 | [] => 0
 | x :: l => x.1 + sumT l
theorem sumT_app : ∀ (x y : List Tk3), sumT (x ++ y) = sumT x + sumT y
 | [], y => by simp [sumT]
 | a :: x, y => by simp [sumT, sumT_app x y]; omega
theorem run_given : ∀ (l : List Ic) {D : Dv}, D.ok → (∀ i ∈ l, i.ok) → D.p.g + 30 * (l.length : Int) ≤ 999999999990 → (runD D l).p.g - sumT (runD D l).t = D.p.g - sumT D.t ∧ (runD D l).p.g ≤ D.p.g + 30 * l.length
 | [], D, h, _, _ => ⟨rfl, by simp [runD]⟩
 | i :: l, D, h, hl, hg => by
  have hi := hl i (List.mem_cons_self ..)
  have e := tick_given h hi (by rw [List.length_cons] at hg; push_cast at hg; omega)
  have hn := num_bd h i
  obtain ⟨h1, h2, h3⟩ := tick_ok h hi
  obtain ⟨g1, g2⟩ := run_given l h1 (fun j hj => hl j (List.mem_cons_of_mem _ hj)) (by rw [List.length_cons] at hg; push_cast at hg; omega)
  rw [runD_cons]
  have e2 : sumT (tickD D i).t = sumT D.t + numD D i := by
   show sumT (D.t ++ [_]) = _
   rw [sumT_app]
   simp [sumT]
  refine ⟨by omega, ?_⟩
  rw [List.length_cons]
  push_cast
  omega
def LkD (L : ByteArray) (lo : List Od4) (lr : Int) : Prop := (L.size = 0 ∧ lo = [] ∧ lr = 0) ∨ (L.size ≠ 0 ∧ ∃ k n d v b, RdOr L k n d v b ∧ ((b = true ∧ lo = [(k, n, d, v)] ∧ lr = 0) ∨ (b = false ∧ lo = [] ∧ lr = 1)))
theorem LkD.uni {L : ByteArray} {lo lo' : List Od4} {lr lr' : Int} (h : LkD L lo lr) (h' : LkD L lo' lr') : lo = lo' ∧ lr = lr' := by
 rcases h with ⟨h1, rfl, rfl⟩ | ⟨h1, k, n, d, v, b, h2, h3⟩ <;> rcases h' with ⟨g1, rfl, rfl⟩ | ⟨g1, k', n', d', v', b', g2, g3⟩
 · exact ⟨rfl, rfl⟩
 · exact absurd h1 g1
 · exact absurd g1 h1
 ·
  obtain ⟨rfl, rfl, rfl, rfl, rfl⟩ := h2.uni g2
  rcases h3 with ⟨rfl, rfl, rfl⟩ | ⟨rfl, rfl, rfl⟩ <;> rcases g3 with ⟨e, rfl, rfl⟩ | ⟨e, rfl, rfl⟩
  · exact ⟨rfl, rfl⟩
  · cases e
  · cases e
  · exact ⟨rfl, rfl⟩
theorem LkD.ex (L : ByteArray) : ∃ lo lr, LkD L lo lr := by
 by_cases h : L.size = 0
 · exact ⟨[], 0, .inl ⟨h, rfl, rfl⟩⟩
 ·
  by_cases h2 : ∃ k n d v, OrdR k n d v ∧ ordT k n d v = L
  ·
   obtain ⟨k, n, d, v, h3, h4⟩ := h2
   exact ⟨[(k, n, d, v)], 0, .inr ⟨h, k, n, d, v, true, .inl ⟨h3, h4, rfl⟩, .inl ⟨rfl, rfl, rfl⟩⟩⟩
  · exact ⟨[], 1, .inr ⟨h, 0, 0, 0, 0, false, .inr ⟨fun k n d v h3 h4 => h2 ⟨k, n, d, v, h3, h4⟩, rfl, rfl, rfl, rfl, rfl⟩, .inr ⟨rfl, rfl, rfl⟩⟩⟩
theorem LkD.ord {L : ByteArray} {lo : List Od4} {lr : Int} (h : LkD L lo lr) : (lo = [] ∨ ∃ o, lo = [o]) ∧ (0 ≤ lr ∧ lr ≤ 1) ∧ (∀ o ∈ lo, OrdR o.1 o.2.1 o.2.2.1 o.2.2.2) := by
 rcases h with ⟨h1, rfl, rfl⟩ | ⟨h1, k, n, d, v, b, h2, h3⟩
 · exact ⟨.inl rfl, by decide, fun o h => by cases h⟩
 ·
  rcases h3 with ⟨rfl, rfl, rfl⟩ | ⟨rfl, rfl, rfl⟩
  ·
   refine ⟨.inr ⟨_, rfl⟩, by decide, fun o h => ?_⟩
   rw [List.mem_singleton.1 h]
   rcases h2 with ⟨h3, _⟩ | ⟨_, e, _⟩
   · exact h3
   · cases e
  · exact ⟨.inl rfl, by decide, fun o h => by cases h⟩
structure Inp where
 i : Ic
 K : ByteArray
 L : ByteArray
def Inp.ok (x : Inp) : Prop := (⟨x.i.ks.toArray⟩ : ByteArray) = x.K ∧ LkD x.L x.i.lo x.i.lr ∧ (0 ≤ x.i.b ∧ x.i.b ≤ 15) ∧ x.K.size ≤ 20 ∧ x.L.size ≤ 40
theorem Inp.ok.ic {x : Inp} (h : x.ok) : x.i.ok := ⟨h.2.2.1, by have h1 := txt_size h.1; have h2 := h.2.2.2.1; omega, h.2.1.ord⟩
def Inp.V (x : Inp) : Value := .agg #[.int .i64 x.i.b, .string x.K, .string x.L]
end Go.Proofs.YtfhhnelffldggaaGreatDoor
namespace Go.Proofs.YtfhhnelffldggaaGreatDoor
open Go.RowKit Go.PlainAid
def Inp.t3 (x : Inp) : In3 := (x.i.b, x.K, x.L)
def inOkB (x : In3) : Bool := decide ((0 ≤ x.1 ∧ x.1 ≤ 15) ∧ x.2.1.size ≤ 20 ∧ x.2.2.size ≤ 40)
theorem results2_row {fn : Func} {p q : Tmp} {ty : TypeId} (h : fn.results = #[.cell p ty, .tmp q]) (tmps : Array Value) (w : World) (g : Nat) (t : TypeId) (cs : Array Value) (fr : Nat × Nat) (v : Value) (hv : tmps.getD q undef = v)
  (hp : tmps.getD p undef = .pointer (some ⟨g, 0, none⟩)) (hg : w.heap[g]? = some (.cells cs t fr))
  (hu : (match Tryz.prog.underlying ty with | some (.struct _) | some (.array _ _) => true | _ => false) = true) (hi : (Tryz.prog.info? ty).map (·.size) = some cs.size) :
  (results fn tmps).run Tryz.prog w = .ok (.tuple #[.agg cs, v]) w := by
 cases e : Tryz.prog.underlying ty with
 | none => rw [e] at hu; cases hu
 | some d =>
  rw [e] at hu
  have hr : (loadVar ty ⟨g, 0, none⟩).run Tryz.prog w = .ok (.agg cs) w := run_loadVar_row w g t ty cs fr d hg e (by cases d <;> first | rfl | (cases hu)) hi
  have hp' : tmps[p]?.getD undef = .pointer (some ⟨g, 0, none⟩) := by simpa using hp
  have hv' : tmps[q]?.getD undef = v := by simpa using hv
  simp [results, h, hp', hv', asAddr, hr]
set_option linter.unusedVariables false
set_option linter.unusedSimpArgs false
theorem feel_or {al b : Int} (hb : 0 ≤ b ∧ b ≤ 15) : G.feelA true al b false = G.orI al b := by
 unfold G.feelA
 rw [if_pos ⟨rfl, hb⟩, if_neg (by decide)]
theorem feel_seen {al b : Int} (hb : 0 ≤ b ∧ b ≤ 15) : G.feelA true al b true = b := by
 unfold G.feelA
 rw [if_pos ⟨rfl, hb⟩, if_pos rfl]
theorem takeS_5_0 (n d r l b g k N D V : Int) (hp : Pm.ok ⟨0, n, d, r, l, b, g, k⟩) (ho : OrdR 5 N D V) (w : World) : Calls Tryz.prog 52 #[PV 0 n d r l b g k, .agg #[.int .i64 5, .int .i64 N, .int .i64 D, .int .i64 V]] w fun e w' => e = .returned (.tuple #[(Pm.take ⟨0, n, d, r, l, b, g, k⟩ 5 N D V).1.V, .bool (Pm.take ⟨0, n, d, r, l, b, g, k⟩ 5 N D V).2]) ∧ Below w.heap.size w w' := by
 have HT : Hid (Pm.take ⟨0, n, d, r, l, b, g, k⟩ 5 N D V = (⟨0, n, d, r, l, b, g, k⟩, false)) := by show _ = _; unfold Pm.take; rw [or_yes ho, ok_yes hp]; simp
 have KP := kpS hp
 have KO := koS ho
 clear hp ho
 obtain ⟨HB0, HP0, HO0, HZ0⟩ := t4s w (PB 0 n d r l b g k) (oB 5 N D V) (PB 0 0 0 0 0 0 0 0)
 have p0 := box8_cells HP0.out
 have o0 := box4_cells HO0.out
 go_enter Tryz.func52, Tryz.ntmps52
 go_wp2_with fail
 refine (KP.out _).mono ?_
 rintro e w1 ⟨rfl, hb1⟩
 obtain ⟨HB1, HP1, HO1, HZ1⟩ := t4o HB0 HP0 HO0 HZ0 hb1
 have p1 := box8_cells HP1.out
 have o1 := box4_cells HO1.out
 have z1 := box8_cells HZ1.out
 clear hb1 HB0 HP0 HO0 HZ0 p0 o0
 go_wp2_with fail
 refine (KO.out _).mono ?_
 rintro e w2 ⟨rfl, hb2⟩
 obtain ⟨HB2, HP2, HO2, HZ2⟩ := t4o HB1 HP1 HO1 HZ1 hb2
 have p2 := box8_cells HP2.out
 have o2 := box4_cells HO2.out
 have z2 := box8_cells HZ2.out
 have hl2 := row_lt HZ2.out
 clear hb2 HB1 HP1 HO1 HZ1 p1 o1 z1
 obtain ⟨HN2, HPa, HOa, HZa, HBa⟩ := t4a HB2 HP2 HO2 HZ2 (PB 0 0 0 0 0 0 0 0)
 go_wp2_with (refine listStoreP rfl rfl _ _ _ rfl rfl w2.heap.size (0) (n) (d) (r) (l) (b) (g) (k) rfl rfl HN2.out ?_)
 intro w3 hr3 ho3 hs3 hB3
 have hl3 : w.heap.size ≤ w2.heap.size := by omega
 have HB3 : Hid (Below w.heap.size w w3) := hB3 _ _ hl3 HBa.out
 have HN3 := hq hr3
 obtain ⟨HP3, HO3, HZ3⟩ := t4p HPa HOa HZa hl2 ho3
 have p3 := box8_cells HP3.out
 have o3 := box4_cells HO3.out
 have n3 := box8_cells HN3.out
 clear hr3 ho3 hs3 hB3 HN2 HPa HOa HZa HBa HP2 HO2 HZ2 HB2 p2 o2 z2
 have HB4 := hq HB3.out
 have HZ4 := hq HZ3.out
 go_upto_region 5 with fail
 go_wp2_with (refine listStoreP rfl rfl _ _ _ rfl rfl (w.heap.size + 1 + 1) (0) (n) (d) (r) (l) (b) (g) (k) rfl rfl HZ4.out ?_)
 intro w9 hr9 ho9 hs9 hB9
 have HF := hq (hB9 _ _ (le2 _) HB4.out)
 have HRf := hq hr9
 clear ho9 hs9 hB9 hr9
 obtain ⟨⟨q0, q1, q2, q3, q4, q5, q6, q7⟩, _⟩ := box8_cells HRf.out
 go_wp2
 refine bodyPost_ret (v := .tuple #[PV 0 n d r l b g k, .bool false]) (by simp only [results, Tryz.results52]; simp [go_sem, q0, q1, q2, q3, q4, q5, q6, q7]) rfl ⟨by rw [HT.out]; rfl, HF.out⟩
theorem takeS_5_1 (n d r l b g k N D V : Int) (hp : Pm.ok ⟨1, n, d, r, l, b, g, k⟩) (ho : OrdR 5 N D V) (w : World) : Calls Tryz.prog 52 #[PV 1 n d r l b g k, .agg #[.int .i64 5, .int .i64 N, .int .i64 D, .int .i64 V]] w fun e w' => e = .returned (.tuple #[(Pm.take ⟨1, n, d, r, l, b, g, k⟩ 5 N D V).1.V, .bool (Pm.take ⟨1, n, d, r, l, b, g, k⟩ 5 N D V).2]) ∧ Below w.heap.size w w' := by
 have HT : Hid (Pm.take ⟨1, n, d, r, l, b, g, k⟩ 5 N D V = (⟨1, n, d, r, l, b, g, k⟩, false)) := by show _ = _; unfold Pm.take; rw [or_yes ho, ok_yes hp]; simp
 have KP := kpS hp
 have KO := koS ho
 clear hp ho
 obtain ⟨HB0, HP0, HO0, HZ0⟩ := t4s w (PB 1 n d r l b g k) (oB 5 N D V) (PB 0 0 0 0 0 0 0 0)
 have p0 := box8_cells HP0.out
 have o0 := box4_cells HO0.out
 go_enter Tryz.func52, Tryz.ntmps52
 go_wp2_with fail
 refine (KP.out _).mono ?_
 rintro e w1 ⟨rfl, hb1⟩
 obtain ⟨HB1, HP1, HO1, HZ1⟩ := t4o HB0 HP0 HO0 HZ0 hb1
 have p1 := box8_cells HP1.out
 have o1 := box4_cells HO1.out
 have z1 := box8_cells HZ1.out
 clear hb1 HB0 HP0 HO0 HZ0 p0 o0
 go_wp2_with fail
 refine (KO.out _).mono ?_
 rintro e w2 ⟨rfl, hb2⟩
 obtain ⟨HB2, HP2, HO2, HZ2⟩ := t4o HB1 HP1 HO1 HZ1 hb2
 have p2 := box8_cells HP2.out
 have o2 := box4_cells HO2.out
 have z2 := box8_cells HZ2.out
 have hl2 := row_lt HZ2.out
 clear hb2 HB1 HP1 HO1 HZ1 p1 o1 z1
 obtain ⟨HN2, HPa, HOa, HZa, HBa⟩ := t4a HB2 HP2 HO2 HZ2 (PB 0 0 0 0 0 0 0 0)
 go_wp2_with (refine listStoreP rfl rfl _ _ _ rfl rfl w2.heap.size (1) (n) (d) (r) (l) (b) (g) (k) rfl rfl HN2.out ?_)
 intro w3 hr3 ho3 hs3 hB3
 have hl3 : w.heap.size ≤ w2.heap.size := by omega
 have HB3 : Hid (Below w.heap.size w w3) := hB3 _ _ hl3 HBa.out
 have HN3 := hq hr3
 obtain ⟨HP3, HO3, HZ3⟩ := t4p HPa HOa HZa hl2 ho3
 have p3 := box8_cells HP3.out
 have o3 := box4_cells HO3.out
 have n3 := box8_cells HN3.out
 clear hr3 ho3 hs3 hB3 HN2 HPa HOa HZa HBa HP2 HO2 HZ2 HB2 p2 o2 z2
 have HB4 := hq HB3.out
 have HZ4 := hq HZ3.out
 go_upto_region 5 with fail
 go_wp2_with (refine listStoreP rfl rfl _ _ _ rfl rfl (w.heap.size + 1 + 1) (1) (n) (d) (r) (l) (b) (g) (k) rfl rfl HZ4.out ?_)
 intro w9 hr9 ho9 hs9 hB9
 have HF := hq (hB9 _ _ (le2 _) HB4.out)
 have HRf := hq hr9
 clear ho9 hs9 hB9 hr9
 obtain ⟨⟨q0, q1, q2, q3, q4, q5, q6, q7⟩, _⟩ := box8_cells HRf.out
 go_wp2
 refine bodyPost_ret (v := .tuple #[PV 1 n d r l b g k, .bool false]) (by simp only [results, Tryz.results52]; simp [go_sem, q0, q1, q2, q3, q4, q5, q6, q7]) rfl ⟨by rw [HT.out]; rfl, HF.out⟩
theorem takeS_5_2 (n d r l b g k N D V : Int) (hp : Pm.ok ⟨2, n, d, r, l, b, g, k⟩) (ho : OrdR 5 N D V) (w : World) : Calls Tryz.prog 52 #[PV 2 n d r l b g k, .agg #[.int .i64 5, .int .i64 N, .int .i64 D, .int .i64 V]] w fun e w' => e = .returned (.tuple #[(Pm.take ⟨2, n, d, r, l, b, g, k⟩ 5 N D V).1.V, .bool (Pm.take ⟨2, n, d, r, l, b, g, k⟩ 5 N D V).2]) ∧ Below w.heap.size w w' := by
 have HT : Hid (Pm.take ⟨2, n, d, r, l, b, g, k⟩ 5 N D V = (⟨2, n, d, r, l, b, g, k⟩, false)) := by show _ = _; unfold Pm.take; rw [or_yes ho, ok_yes hp]; simp
 have KP := kpS hp
 have KO := koS ho
 clear hp ho
 obtain ⟨HB0, HP0, HO0, HZ0⟩ := t4s w (PB 2 n d r l b g k) (oB 5 N D V) (PB 0 0 0 0 0 0 0 0)
 have p0 := box8_cells HP0.out
 have o0 := box4_cells HO0.out
 go_enter Tryz.func52, Tryz.ntmps52
 go_wp2_with fail
 refine (KP.out _).mono ?_
 rintro e w1 ⟨rfl, hb1⟩
 obtain ⟨HB1, HP1, HO1, HZ1⟩ := t4o HB0 HP0 HO0 HZ0 hb1
 have p1 := box8_cells HP1.out
 have o1 := box4_cells HO1.out
 have z1 := box8_cells HZ1.out
 clear hb1 HB0 HP0 HO0 HZ0 p0 o0
 go_wp2_with fail
 refine (KO.out _).mono ?_
 rintro e w2 ⟨rfl, hb2⟩
 obtain ⟨HB2, HP2, HO2, HZ2⟩ := t4o HB1 HP1 HO1 HZ1 hb2
 have p2 := box8_cells HP2.out
 have o2 := box4_cells HO2.out
 have z2 := box8_cells HZ2.out
 have hl2 := row_lt HZ2.out
 clear hb2 HB1 HP1 HO1 HZ1 p1 o1 z1
 obtain ⟨HN2, HPa, HOa, HZa, HBa⟩ := t4a HB2 HP2 HO2 HZ2 (PB 0 0 0 0 0 0 0 0)
 go_wp2_with (refine listStoreP rfl rfl _ _ _ rfl rfl w2.heap.size (2) (n) (d) (r) (l) (b) (g) (k) rfl rfl HN2.out ?_)
 intro w3 hr3 ho3 hs3 hB3
 have hl3 : w.heap.size ≤ w2.heap.size := by omega
 have HB3 : Hid (Below w.heap.size w w3) := hB3 _ _ hl3 HBa.out
 have HN3 := hq hr3
 obtain ⟨HP3, HO3, HZ3⟩ := t4p HPa HOa HZa hl2 ho3
 have p3 := box8_cells HP3.out
 have o3 := box4_cells HO3.out
 have n3 := box8_cells HN3.out
 clear hr3 ho3 hs3 hB3 HN2 HPa HOa HZa HBa HP2 HO2 HZ2 HB2 p2 o2 z2
 have HB4 := hq HB3.out
 have HZ4 := hq HZ3.out
 go_upto_region 5 with fail
 go_wp2_with (refine listStoreP rfl rfl _ _ _ rfl rfl (w.heap.size + 1 + 1) (2) (n) (d) (r) (l) (b) (g) (k) rfl rfl HZ4.out ?_)
 intro w9 hr9 ho9 hs9 hB9
 have HF := hq (hB9 _ _ (le2 _) HB4.out)
 have HRf := hq hr9
 clear ho9 hs9 hB9 hr9
 obtain ⟨⟨q0, q1, q2, q3, q4, q5, q6, q7⟩, _⟩ := box8_cells HRf.out
 go_wp2
 refine bodyPost_ret (v := .tuple #[PV 2 n d r l b g k, .bool false]) (by simp only [results, Tryz.results52]; simp [go_sem, q0, q1, q2, q3, q4, q5, q6, q7]) rfl ⟨by rw [HT.out]; rfl, HF.out⟩
theorem takeS_5_3 (n d r l b g k N D V : Int) (hp : Pm.ok ⟨3, n, d, r, l, b, g, k⟩) (ho : OrdR 5 N D V) (w : World) : Calls Tryz.prog 52 #[PV 3 n d r l b g k, .agg #[.int .i64 5, .int .i64 N, .int .i64 D, .int .i64 V]] w fun e w' => e = .returned (.tuple #[(Pm.take ⟨3, n, d, r, l, b, g, k⟩ 5 N D V).1.V, .bool (Pm.take ⟨3, n, d, r, l, b, g, k⟩ 5 N D V).2]) ∧ Below w.heap.size w w' := by
 have HT : Hid (Pm.take ⟨3, n, d, r, l, b, g, k⟩ 5 N D V = (⟨3, n, d, r, l, b, g, k⟩, false)) := by show _ = _; unfold Pm.take; rw [or_yes ho, ok_yes hp]; simp
 have KP := kpS hp
 have KO := koS ho
 clear hp ho
 obtain ⟨HB0, HP0, HO0, HZ0⟩ := t4s w (PB 3 n d r l b g k) (oB 5 N D V) (PB 0 0 0 0 0 0 0 0)
 have p0 := box8_cells HP0.out
 have o0 := box4_cells HO0.out
 go_enter Tryz.func52, Tryz.ntmps52
 go_wp2_with fail
 refine (KP.out _).mono ?_
 rintro e w1 ⟨rfl, hb1⟩
 obtain ⟨HB1, HP1, HO1, HZ1⟩ := t4o HB0 HP0 HO0 HZ0 hb1
 have p1 := box8_cells HP1.out
 have o1 := box4_cells HO1.out
 have z1 := box8_cells HZ1.out
 clear hb1 HB0 HP0 HO0 HZ0 p0 o0
 go_wp2_with fail
 refine (KO.out _).mono ?_
 rintro e w2 ⟨rfl, hb2⟩
 obtain ⟨HB2, HP2, HO2, HZ2⟩ := t4o HB1 HP1 HO1 HZ1 hb2
 have p2 := box8_cells HP2.out
 have o2 := box4_cells HO2.out
 have z2 := box8_cells HZ2.out
 have hl2 := row_lt HZ2.out
 clear hb2 HB1 HP1 HO1 HZ1 p1 o1 z1
 obtain ⟨HN2, HPa, HOa, HZa, HBa⟩ := t4a HB2 HP2 HO2 HZ2 (PB 0 0 0 0 0 0 0 0)
 go_wp2_with (refine listStoreP rfl rfl _ _ _ rfl rfl w2.heap.size (3) (n) (d) (r) (l) (b) (g) (k) rfl rfl HN2.out ?_)
 intro w3 hr3 ho3 hs3 hB3
 have hl3 : w.heap.size ≤ w2.heap.size := by omega
 have HB3 : Hid (Below w.heap.size w w3) := hB3 _ _ hl3 HBa.out
 have HN3 := hq hr3
 obtain ⟨HP3, HO3, HZ3⟩ := t4p HPa HOa HZa hl2 ho3
 have p3 := box8_cells HP3.out
 have o3 := box4_cells HO3.out
 have n3 := box8_cells HN3.out
 clear hr3 ho3 hs3 hB3 HN2 HPa HOa HZa HBa HP2 HO2 HZ2 HB2 p2 o2 z2
 have HB4 := hq HB3.out
 have HZ4 := hq HZ3.out
 go_upto_region 5 with fail
 go_wp2_with (refine listStoreP rfl rfl _ _ _ rfl rfl (w.heap.size + 1 + 1) (3) (n) (d) (r) (l) (b) (g) (k) rfl rfl HZ4.out ?_)
 intro w9 hr9 ho9 hs9 hB9
 have HF := hq (hB9 _ _ (le2 _) HB4.out)
 have HRf := hq hr9
 clear ho9 hs9 hB9 hr9
 obtain ⟨⟨q0, q1, q2, q3, q4, q5, q6, q7⟩, _⟩ := box8_cells HRf.out
 go_wp2
 refine bodyPost_ret (v := .tuple #[PV 3 n d r l b g k, .bool false]) (by simp only [results, Tryz.results52]; simp [go_sem, q0, q1, q2, q3, q4, q5, q6, q7]) rfl ⟨by rw [HT.out]; rfl, HF.out⟩
theorem takeS_6_0 (n d r l b g k N D V : Int) (hp : Pm.ok ⟨0, n, d, r, l, b, g, k⟩) (ho : OrdR 6 N D V) (w : World) : Calls Tryz.prog 52 #[PV 0 n d r l b g k, .agg #[.int .i64 6, .int .i64 N, .int .i64 D, .int .i64 V]] w fun e w' => e = .returned (.tuple #[(Pm.take ⟨0, n, d, r, l, b, g, k⟩ 6 N D V).1.V, .bool (Pm.take ⟨0, n, d, r, l, b, g, k⟩ 6 N D V).2]) ∧ Below w.heap.size w w' := by
 have HT : Hid (Pm.take ⟨0, n, d, r, l, b, g, k⟩ 6 N D V = (⟨0, n, d, r, 0, 0, g, 0⟩, true)) := by show _ = _; unfold Pm.take; rw [or_yes ho, ok_yes hp]; simp
 have KP := kpS hp
 have KO := koS ho
 clear hp ho
 obtain ⟨HB0, HP0, HO0, HZ0⟩ := t4s w (PB 0 n d r l b g k) (oB 6 N D V) (PB 0 0 0 0 0 0 0 0)
 have p0 := box8_cells HP0.out
 have o0 := box4_cells HO0.out
 go_enter Tryz.func52, Tryz.ntmps52
 go_wp2_with fail
 refine (KP.out _).mono ?_
 rintro e w1 ⟨rfl, hb1⟩
 obtain ⟨HB1, HP1, HO1, HZ1⟩ := t4o HB0 HP0 HO0 HZ0 hb1
 have p1 := box8_cells HP1.out
 have o1 := box4_cells HO1.out
 have z1 := box8_cells HZ1.out
 clear hb1 HB0 HP0 HO0 HZ0 p0 o0
 go_wp2_with fail
 refine (KO.out _).mono ?_
 rintro e w2 ⟨rfl, hb2⟩
 obtain ⟨HB2, HP2, HO2, HZ2⟩ := t4o HB1 HP1 HO1 HZ1 hb2
 have p2 := box8_cells HP2.out
 have o2 := box4_cells HO2.out
 have z2 := box8_cells HZ2.out
 have hl2 := row_lt HZ2.out
 clear hb2 HB1 HP1 HO1 HZ1 p1 o1 z1
 obtain ⟨HN2, HPa, HOa, HZa, HBa⟩ := t4a HB2 HP2 HO2 HZ2 (PB 0 0 0 0 0 0 0 0)
 go_wp2_with (refine listStoreP rfl rfl _ _ _ rfl rfl w2.heap.size (0) (n) (d) (r) (l) (b) (g) (k) rfl rfl HN2.out ?_)
 intro w3 hr3 ho3 hs3 hB3
 have hl3 : w.heap.size ≤ w2.heap.size := by omega
 have HB3 : Hid (Below w.heap.size w w3) := hB3 _ _ hl3 HBa.out
 have HN3 := hq hr3
 obtain ⟨HP3, HO3, HZ3⟩ := t4p HPa HOa HZa hl2 ho3
 have p3 := box8_cells HP3.out
 have o3 := box4_cells HO3.out
 have n3 := box8_cells HN3.out
 clear hr3 ho3 hs3 hB3 HN2 HPa HOa HZa HBa HP2 HO2 HZ2 HB2 p2 o2 z2
 go_upto_region 27 with fail
 go_wp2_with (refine listStoreC rfl rfl _ _ _ rfl rfl w2.heap.size 0 (0) rfl rfl HN3.out (by simp) ?_)
 intro w30 hr ho hs hB
 have HB30 : Hid (Below w.heap.size w w30) := hB _ _ hl3 HB3.out
 have HN30 := hq hr
 have HP30 := hq ((ho _ (by omega)).trans HP3.out)
 have HO30 := hq ((ho _ (by omega)).trans HO3.out)
 have HZ30 := hq ((ho _ (by omega)).trans HZ3.out)
 have p30 := box8_cells HP30.out
 have o30 := box4_cells HO30.out
 have n30 := box8_cells HN30.out
 clear hr ho hs hB HB3 HN3 HP3 HO3 HZ3 p3 o3 n3
 go_upto_region 28 with fail
 go_wp2_with (refine listStoreC rfl rfl _ _ _ rfl rfl w2.heap.size 4 (0) rfl rfl HN30.out (by simp) ?_)
 intro w31 hr ho hs hB
 have HB31 : Hid (Below w.heap.size w w31) := hB _ _ hl3 HB30.out
 have HN31 := hq hr
 have HP31 := hq ((ho _ (by omega)).trans HP30.out)
 have HO31 := hq ((ho _ (by omega)).trans HO30.out)
 have HZ31 := hq ((ho _ (by omega)).trans HZ30.out)
 have p31 := box8_cells HP31.out
 have o31 := box4_cells HO31.out
 have n31 := box8_cells HN31.out
 clear hr ho hs hB HB30 HN30 HP30 HO30 HZ30 p30 o30 n30
 go_upto_region 29 with fail
 go_wp2_with (refine listStoreC rfl rfl _ _ _ rfl rfl w2.heap.size 5 (0) rfl rfl HN31.out (by simp) ?_)
 intro w32 hr ho hs hB
 have HB32 : Hid (Below w.heap.size w w32) := hB _ _ hl3 HB31.out
 have HN32 := hq hr
 have HP32 := hq ((ho _ (by omega)).trans HP31.out)
 have HO32 := hq ((ho _ (by omega)).trans HO31.out)
 have HZ32 := hq ((ho _ (by omega)).trans HZ31.out)
 have p32 := box8_cells HP32.out
 have o32 := box4_cells HO32.out
 have n32 := box8_cells HN32.out
 clear hr ho hs hB HB31 HN31 HP31 HO31 HZ31 p31 o31 n31
 go_upto_region 30 with fail
 go_wp2_with (refine listStoreC rfl rfl _ _ _ rfl rfl w2.heap.size 7 (0) rfl rfl HN32.out (by simp) ?_)
 intro w33 hr ho hs hB
 have HB33 : Hid (Below w.heap.size w w33) := hB _ _ hl3 HB32.out
 have HN33 := hq hr
 have HP33 := hq ((ho _ (by omega)).trans HP32.out)
 have HO33 := hq ((ho _ (by omega)).trans HO32.out)
 have HZ33 := hq ((ho _ (by omega)).trans HZ32.out)
 have p33 := box8_cells HP33.out
 have o33 := box4_cells HO33.out
 have n33 := box8_cells HN33.out
 clear hr ho hs hB HB32 HN32 HP32 HO32 HZ32 p32 o32 n32
 have HB4 := hq HB33.out
 have HZ4 := hq HZ33.out
 go_upto_region 31 with fail
 go_wp2_with (refine listStoreP rfl rfl _ _ _ rfl rfl (w.heap.size + 1 + 1) (0) (n) (d) (r) (0) (0) (g) (0) rfl rfl HZ4.out ?_)
 intro w9 hr9 ho9 hs9 hB9
 have HF := hq (hB9 _ _ (le2 _) HB4.out)
 have HRf := hq hr9
 clear ho9 hs9 hB9 hr9
 obtain ⟨⟨q0, q1, q2, q3, q4, q5, q6, q7⟩, _⟩ := box8_cells HRf.out
 go_wp2
 refine bodyPost_ret (v := .tuple #[PV 0 n d r 0 0 g 0, .bool true]) (by simp only [results, Tryz.results52]; simp [go_sem, q0, q1, q2, q3, q4, q5, q6, q7]) rfl ⟨by rw [HT.out]; rfl, HF.out⟩
theorem takeS_6_1 (n d r l b g k N D V : Int) (hp : Pm.ok ⟨1, n, d, r, l, b, g, k⟩) (ho : OrdR 6 N D V) (w : World) : Calls Tryz.prog 52 #[PV 1 n d r l b g k, .agg #[.int .i64 6, .int .i64 N, .int .i64 D, .int .i64 V]] w fun e w' => e = .returned (.tuple #[(Pm.take ⟨1, n, d, r, l, b, g, k⟩ 6 N D V).1.V, .bool (Pm.take ⟨1, n, d, r, l, b, g, k⟩ 6 N D V).2]) ∧ Below w.heap.size w w' := by
 have HT : Hid (Pm.take ⟨1, n, d, r, l, b, g, k⟩ 6 N D V = (⟨0, n, d, r, 0, 0, g, 0⟩, true)) := by show _ = _; unfold Pm.take; rw [or_yes ho, ok_yes hp]; simp
 have KP := kpS hp
 have KO := koS ho
 clear hp ho
 obtain ⟨HB0, HP0, HO0, HZ0⟩ := t4s w (PB 1 n d r l b g k) (oB 6 N D V) (PB 0 0 0 0 0 0 0 0)
 have p0 := box8_cells HP0.out
 have o0 := box4_cells HO0.out
 go_enter Tryz.func52, Tryz.ntmps52
 go_wp2_with fail
 refine (KP.out _).mono ?_
 rintro e w1 ⟨rfl, hb1⟩
 obtain ⟨HB1, HP1, HO1, HZ1⟩ := t4o HB0 HP0 HO0 HZ0 hb1
 have p1 := box8_cells HP1.out
 have o1 := box4_cells HO1.out
 have z1 := box8_cells HZ1.out
 clear hb1 HB0 HP0 HO0 HZ0 p0 o0
 go_wp2_with fail
 refine (KO.out _).mono ?_
 rintro e w2 ⟨rfl, hb2⟩
 obtain ⟨HB2, HP2, HO2, HZ2⟩ := t4o HB1 HP1 HO1 HZ1 hb2
 have p2 := box8_cells HP2.out
 have o2 := box4_cells HO2.out
 have z2 := box8_cells HZ2.out
 have hl2 := row_lt HZ2.out
 clear hb2 HB1 HP1 HO1 HZ1 p1 o1 z1
 obtain ⟨HN2, HPa, HOa, HZa, HBa⟩ := t4a HB2 HP2 HO2 HZ2 (PB 0 0 0 0 0 0 0 0)
 go_wp2_with (refine listStoreP rfl rfl _ _ _ rfl rfl w2.heap.size (1) (n) (d) (r) (l) (b) (g) (k) rfl rfl HN2.out ?_)
 intro w3 hr3 ho3 hs3 hB3
 have hl3 : w.heap.size ≤ w2.heap.size := by omega
 have HB3 : Hid (Below w.heap.size w w3) := hB3 _ _ hl3 HBa.out
 have HN3 := hq hr3
 obtain ⟨HP3, HO3, HZ3⟩ := t4p HPa HOa HZa hl2 ho3
 have p3 := box8_cells HP3.out
 have o3 := box4_cells HO3.out
 have n3 := box8_cells HN3.out
 clear hr3 ho3 hs3 hB3 HN2 HPa HOa HZa HBa HP2 HO2 HZ2 HB2 p2 o2 z2
 go_upto_region 27 with fail
 go_wp2_with (refine listStoreC rfl rfl _ _ _ rfl rfl w2.heap.size 0 (0) rfl rfl HN3.out (by simp) ?_)
 intro w30 hr ho hs hB
 have HB30 : Hid (Below w.heap.size w w30) := hB _ _ hl3 HB3.out
 have HN30 := hq hr
 have HP30 := hq ((ho _ (by omega)).trans HP3.out)
 have HO30 := hq ((ho _ (by omega)).trans HO3.out)
 have HZ30 := hq ((ho _ (by omega)).trans HZ3.out)
 have p30 := box8_cells HP30.out
 have o30 := box4_cells HO30.out
 have n30 := box8_cells HN30.out
 clear hr ho hs hB HB3 HN3 HP3 HO3 HZ3 p3 o3 n3
 go_upto_region 28 with fail
 go_wp2_with (refine listStoreC rfl rfl _ _ _ rfl rfl w2.heap.size 4 (0) rfl rfl HN30.out (by simp) ?_)
 intro w31 hr ho hs hB
 have HB31 : Hid (Below w.heap.size w w31) := hB _ _ hl3 HB30.out
 have HN31 := hq hr
 have HP31 := hq ((ho _ (by omega)).trans HP30.out)
 have HO31 := hq ((ho _ (by omega)).trans HO30.out)
 have HZ31 := hq ((ho _ (by omega)).trans HZ30.out)
 have p31 := box8_cells HP31.out
 have o31 := box4_cells HO31.out
 have n31 := box8_cells HN31.out
 clear hr ho hs hB HB30 HN30 HP30 HO30 HZ30 p30 o30 n30
 go_upto_region 29 with fail
 go_wp2_with (refine listStoreC rfl rfl _ _ _ rfl rfl w2.heap.size 5 (0) rfl rfl HN31.out (by simp) ?_)
 intro w32 hr ho hs hB
 have HB32 : Hid (Below w.heap.size w w32) := hB _ _ hl3 HB31.out
 have HN32 := hq hr
 have HP32 := hq ((ho _ (by omega)).trans HP31.out)
 have HO32 := hq ((ho _ (by omega)).trans HO31.out)
 have HZ32 := hq ((ho _ (by omega)).trans HZ31.out)
 have p32 := box8_cells HP32.out
 have o32 := box4_cells HO32.out
 have n32 := box8_cells HN32.out
 clear hr ho hs hB HB31 HN31 HP31 HO31 HZ31 p31 o31 n31
 go_upto_region 30 with fail
 go_wp2_with (refine listStoreC rfl rfl _ _ _ rfl rfl w2.heap.size 7 (0) rfl rfl HN32.out (by simp) ?_)
 intro w33 hr ho hs hB
 have HB33 : Hid (Below w.heap.size w w33) := hB _ _ hl3 HB32.out
 have HN33 := hq hr
 have HP33 := hq ((ho _ (by omega)).trans HP32.out)
 have HO33 := hq ((ho _ (by omega)).trans HO32.out)
 have HZ33 := hq ((ho _ (by omega)).trans HZ32.out)
 have p33 := box8_cells HP33.out
 have o33 := box4_cells HO33.out
 have n33 := box8_cells HN33.out
 clear hr ho hs hB HB32 HN32 HP32 HO32 HZ32 p32 o32 n32
 have HB4 := hq HB33.out
 have HZ4 := hq HZ33.out
 go_upto_region 31 with fail
 go_wp2_with (refine listStoreP rfl rfl _ _ _ rfl rfl (w.heap.size + 1 + 1) (0) (n) (d) (r) (0) (0) (g) (0) rfl rfl HZ4.out ?_)
 intro w9 hr9 ho9 hs9 hB9
 have HF := hq (hB9 _ _ (le2 _) HB4.out)
 have HRf := hq hr9
 clear ho9 hs9 hB9 hr9
 obtain ⟨⟨q0, q1, q2, q3, q4, q5, q6, q7⟩, _⟩ := box8_cells HRf.out
 go_wp2
 refine bodyPost_ret (v := .tuple #[PV 0 n d r 0 0 g 0, .bool true]) (by simp only [results, Tryz.results52]; simp [go_sem, q0, q1, q2, q3, q4, q5, q6, q7]) rfl ⟨by rw [HT.out]; rfl, HF.out⟩
theorem takeS_6_2 (n d r l b g k N D V : Int) (hp : Pm.ok ⟨2, n, d, r, l, b, g, k⟩) (ho : OrdR 6 N D V) (w : World) : Calls Tryz.prog 52 #[PV 2 n d r l b g k, .agg #[.int .i64 6, .int .i64 N, .int .i64 D, .int .i64 V]] w fun e w' => e = .returned (.tuple #[(Pm.take ⟨2, n, d, r, l, b, g, k⟩ 6 N D V).1.V, .bool (Pm.take ⟨2, n, d, r, l, b, g, k⟩ 6 N D V).2]) ∧ Below w.heap.size w w' := by
 have HT : Hid (Pm.take ⟨2, n, d, r, l, b, g, k⟩ 6 N D V = (⟨0, n, d, r, 0, 0, g, 0⟩, true)) := by show _ = _; unfold Pm.take; rw [or_yes ho, ok_yes hp]; simp
 have KP := kpS hp
 have KO := koS ho
 clear hp ho
 obtain ⟨HB0, HP0, HO0, HZ0⟩ := t4s w (PB 2 n d r l b g k) (oB 6 N D V) (PB 0 0 0 0 0 0 0 0)
 have p0 := box8_cells HP0.out
 have o0 := box4_cells HO0.out
 go_enter Tryz.func52, Tryz.ntmps52
 go_wp2_with fail
 refine (KP.out _).mono ?_
 rintro e w1 ⟨rfl, hb1⟩
 obtain ⟨HB1, HP1, HO1, HZ1⟩ := t4o HB0 HP0 HO0 HZ0 hb1
 have p1 := box8_cells HP1.out
 have o1 := box4_cells HO1.out
 have z1 := box8_cells HZ1.out
 clear hb1 HB0 HP0 HO0 HZ0 p0 o0
 go_wp2_with fail
 refine (KO.out _).mono ?_
 rintro e w2 ⟨rfl, hb2⟩
 obtain ⟨HB2, HP2, HO2, HZ2⟩ := t4o HB1 HP1 HO1 HZ1 hb2
 have p2 := box8_cells HP2.out
 have o2 := box4_cells HO2.out
 have z2 := box8_cells HZ2.out
 have hl2 := row_lt HZ2.out
 clear hb2 HB1 HP1 HO1 HZ1 p1 o1 z1
 obtain ⟨HN2, HPa, HOa, HZa, HBa⟩ := t4a HB2 HP2 HO2 HZ2 (PB 0 0 0 0 0 0 0 0)
 go_wp2_with (refine listStoreP rfl rfl _ _ _ rfl rfl w2.heap.size (2) (n) (d) (r) (l) (b) (g) (k) rfl rfl HN2.out ?_)
 intro w3 hr3 ho3 hs3 hB3
 have hl3 : w.heap.size ≤ w2.heap.size := by omega
 have HB3 : Hid (Below w.heap.size w w3) := hB3 _ _ hl3 HBa.out
 have HN3 := hq hr3
 obtain ⟨HP3, HO3, HZ3⟩ := t4p HPa HOa HZa hl2 ho3
 have p3 := box8_cells HP3.out
 have o3 := box4_cells HO3.out
 have n3 := box8_cells HN3.out
 clear hr3 ho3 hs3 hB3 HN2 HPa HOa HZa HBa HP2 HO2 HZ2 HB2 p2 o2 z2
 go_upto_region 27 with fail
 go_wp2_with (refine listStoreC rfl rfl _ _ _ rfl rfl w2.heap.size 0 (0) rfl rfl HN3.out (by simp) ?_)
 intro w30 hr ho hs hB
 have HB30 : Hid (Below w.heap.size w w30) := hB _ _ hl3 HB3.out
 have HN30 := hq hr
 have HP30 := hq ((ho _ (by omega)).trans HP3.out)
 have HO30 := hq ((ho _ (by omega)).trans HO3.out)
 have HZ30 := hq ((ho _ (by omega)).trans HZ3.out)
 have p30 := box8_cells HP30.out
 have o30 := box4_cells HO30.out
 have n30 := box8_cells HN30.out
 clear hr ho hs hB HB3 HN3 HP3 HO3 HZ3 p3 o3 n3
 go_upto_region 28 with fail
 go_wp2_with (refine listStoreC rfl rfl _ _ _ rfl rfl w2.heap.size 4 (0) rfl rfl HN30.out (by simp) ?_)
 intro w31 hr ho hs hB
 have HB31 : Hid (Below w.heap.size w w31) := hB _ _ hl3 HB30.out
 have HN31 := hq hr
 have HP31 := hq ((ho _ (by omega)).trans HP30.out)
 have HO31 := hq ((ho _ (by omega)).trans HO30.out)
 have HZ31 := hq ((ho _ (by omega)).trans HZ30.out)
 have p31 := box8_cells HP31.out
 have o31 := box4_cells HO31.out
 have n31 := box8_cells HN31.out
 clear hr ho hs hB HB30 HN30 HP30 HO30 HZ30 p30 o30 n30
 go_upto_region 29 with fail
 go_wp2_with (refine listStoreC rfl rfl _ _ _ rfl rfl w2.heap.size 5 (0) rfl rfl HN31.out (by simp) ?_)
 intro w32 hr ho hs hB
 have HB32 : Hid (Below w.heap.size w w32) := hB _ _ hl3 HB31.out
 have HN32 := hq hr
 have HP32 := hq ((ho _ (by omega)).trans HP31.out)
 have HO32 := hq ((ho _ (by omega)).trans HO31.out)
 have HZ32 := hq ((ho _ (by omega)).trans HZ31.out)
 have p32 := box8_cells HP32.out
 have o32 := box4_cells HO32.out
 have n32 := box8_cells HN32.out
 clear hr ho hs hB HB31 HN31 HP31 HO31 HZ31 p31 o31 n31
 go_upto_region 30 with fail
 go_wp2_with (refine listStoreC rfl rfl _ _ _ rfl rfl w2.heap.size 7 (0) rfl rfl HN32.out (by simp) ?_)
 intro w33 hr ho hs hB
 have HB33 : Hid (Below w.heap.size w w33) := hB _ _ hl3 HB32.out
 have HN33 := hq hr
 have HP33 := hq ((ho _ (by omega)).trans HP32.out)
 have HO33 := hq ((ho _ (by omega)).trans HO32.out)
 have HZ33 := hq ((ho _ (by omega)).trans HZ32.out)
 have p33 := box8_cells HP33.out
 have o33 := box4_cells HO33.out
 have n33 := box8_cells HN33.out
 clear hr ho hs hB HB32 HN32 HP32 HO32 HZ32 p32 o32 n32
 have HB4 := hq HB33.out
 have HZ4 := hq HZ33.out
 go_upto_region 31 with fail
 go_wp2_with (refine listStoreP rfl rfl _ _ _ rfl rfl (w.heap.size + 1 + 1) (0) (n) (d) (r) (0) (0) (g) (0) rfl rfl HZ4.out ?_)
 intro w9 hr9 ho9 hs9 hB9
 have HF := hq (hB9 _ _ (le2 _) HB4.out)
 have HRf := hq hr9
 clear ho9 hs9 hB9 hr9
 obtain ⟨⟨q0, q1, q2, q3, q4, q5, q6, q7⟩, _⟩ := box8_cells HRf.out
 go_wp2
 refine bodyPost_ret (v := .tuple #[PV 0 n d r 0 0 g 0, .bool true]) (by simp only [results, Tryz.results52]; simp [go_sem, q0, q1, q2, q3, q4, q5, q6, q7]) rfl ⟨by rw [HT.out]; rfl, HF.out⟩
theorem takeS_6_3 (n d r l b g k N D V : Int) (hp : Pm.ok ⟨3, n, d, r, l, b, g, k⟩) (ho : OrdR 6 N D V) (w : World) : Calls Tryz.prog 52 #[PV 3 n d r l b g k, .agg #[.int .i64 6, .int .i64 N, .int .i64 D, .int .i64 V]] w fun e w' => e = .returned (.tuple #[(Pm.take ⟨3, n, d, r, l, b, g, k⟩ 6 N D V).1.V, .bool (Pm.take ⟨3, n, d, r, l, b, g, k⟩ 6 N D V).2]) ∧ Below w.heap.size w w' := by
 have HT : Hid (Pm.take ⟨3, n, d, r, l, b, g, k⟩ 6 N D V = (⟨0, n, d, r, 0, 0, g, 0⟩, true)) := by show _ = _; unfold Pm.take; rw [or_yes ho, ok_yes hp]; simp
 have KP := kpS hp
 have KO := koS ho
 clear hp ho
 obtain ⟨HB0, HP0, HO0, HZ0⟩ := t4s w (PB 3 n d r l b g k) (oB 6 N D V) (PB 0 0 0 0 0 0 0 0)
 have p0 := box8_cells HP0.out
 have o0 := box4_cells HO0.out
 go_enter Tryz.func52, Tryz.ntmps52
 go_wp2_with fail
 refine (KP.out _).mono ?_
 rintro e w1 ⟨rfl, hb1⟩
 obtain ⟨HB1, HP1, HO1, HZ1⟩ := t4o HB0 HP0 HO0 HZ0 hb1
 have p1 := box8_cells HP1.out
 have o1 := box4_cells HO1.out
 have z1 := box8_cells HZ1.out
 clear hb1 HB0 HP0 HO0 HZ0 p0 o0
 go_wp2_with fail
 refine (KO.out _).mono ?_
 rintro e w2 ⟨rfl, hb2⟩
 obtain ⟨HB2, HP2, HO2, HZ2⟩ := t4o HB1 HP1 HO1 HZ1 hb2
 have p2 := box8_cells HP2.out
 have o2 := box4_cells HO2.out
 have z2 := box8_cells HZ2.out
 have hl2 := row_lt HZ2.out
 clear hb2 HB1 HP1 HO1 HZ1 p1 o1 z1
 obtain ⟨HN2, HPa, HOa, HZa, HBa⟩ := t4a HB2 HP2 HO2 HZ2 (PB 0 0 0 0 0 0 0 0)
 go_wp2_with (refine listStoreP rfl rfl _ _ _ rfl rfl w2.heap.size (3) (n) (d) (r) (l) (b) (g) (k) rfl rfl HN2.out ?_)
 intro w3 hr3 ho3 hs3 hB3
 have hl3 : w.heap.size ≤ w2.heap.size := by omega
 have HB3 : Hid (Below w.heap.size w w3) := hB3 _ _ hl3 HBa.out
 have HN3 := hq hr3
 obtain ⟨HP3, HO3, HZ3⟩ := t4p HPa HOa HZa hl2 ho3
 have p3 := box8_cells HP3.out
 have o3 := box4_cells HO3.out
 have n3 := box8_cells HN3.out
 clear hr3 ho3 hs3 hB3 HN2 HPa HOa HZa HBa HP2 HO2 HZ2 HB2 p2 o2 z2
 go_upto_region 27 with fail
 go_wp2_with (refine listStoreC rfl rfl _ _ _ rfl rfl w2.heap.size 0 (0) rfl rfl HN3.out (by simp) ?_)
 intro w30 hr ho hs hB
 have HB30 : Hid (Below w.heap.size w w30) := hB _ _ hl3 HB3.out
 have HN30 := hq hr
 have HP30 := hq ((ho _ (by omega)).trans HP3.out)
 have HO30 := hq ((ho _ (by omega)).trans HO3.out)
 have HZ30 := hq ((ho _ (by omega)).trans HZ3.out)
 have p30 := box8_cells HP30.out
 have o30 := box4_cells HO30.out
 have n30 := box8_cells HN30.out
 clear hr ho hs hB HB3 HN3 HP3 HO3 HZ3 p3 o3 n3
 go_upto_region 28 with fail
 go_wp2_with (refine listStoreC rfl rfl _ _ _ rfl rfl w2.heap.size 4 (0) rfl rfl HN30.out (by simp) ?_)
 intro w31 hr ho hs hB
 have HB31 : Hid (Below w.heap.size w w31) := hB _ _ hl3 HB30.out
 have HN31 := hq hr
 have HP31 := hq ((ho _ (by omega)).trans HP30.out)
 have HO31 := hq ((ho _ (by omega)).trans HO30.out)
 have HZ31 := hq ((ho _ (by omega)).trans HZ30.out)
 have p31 := box8_cells HP31.out
 have o31 := box4_cells HO31.out
 have n31 := box8_cells HN31.out
 clear hr ho hs hB HB30 HN30 HP30 HO30 HZ30 p30 o30 n30
 go_upto_region 29 with fail
 go_wp2_with (refine listStoreC rfl rfl _ _ _ rfl rfl w2.heap.size 5 (0) rfl rfl HN31.out (by simp) ?_)
 intro w32 hr ho hs hB
 have HB32 : Hid (Below w.heap.size w w32) := hB _ _ hl3 HB31.out
 have HN32 := hq hr
 have HP32 := hq ((ho _ (by omega)).trans HP31.out)
 have HO32 := hq ((ho _ (by omega)).trans HO31.out)
 have HZ32 := hq ((ho _ (by omega)).trans HZ31.out)
 have p32 := box8_cells HP32.out
 have o32 := box4_cells HO32.out
 have n32 := box8_cells HN32.out
 clear hr ho hs hB HB31 HN31 HP31 HO31 HZ31 p31 o31 n31
 go_upto_region 30 with fail
 go_wp2_with (refine listStoreC rfl rfl _ _ _ rfl rfl w2.heap.size 7 (0) rfl rfl HN32.out (by simp) ?_)
 intro w33 hr ho hs hB
 have HB33 : Hid (Below w.heap.size w w33) := hB _ _ hl3 HB32.out
 have HN33 := hq hr
 have HP33 := hq ((ho _ (by omega)).trans HP32.out)
 have HO33 := hq ((ho _ (by omega)).trans HO32.out)
 have HZ33 := hq ((ho _ (by omega)).trans HZ32.out)
 have p33 := box8_cells HP33.out
 have o33 := box4_cells HO33.out
 have n33 := box8_cells HN33.out
 clear hr ho hs hB HB32 HN32 HP32 HO32 HZ32 p32 o32 n32
 have HB4 := hq HB33.out
 have HZ4 := hq HZ33.out
 go_upto_region 31 with fail
 go_wp2_with (refine listStoreP rfl rfl _ _ _ rfl rfl (w.heap.size + 1 + 1) (0) (n) (d) (r) (0) (0) (g) (0) rfl rfl HZ4.out ?_)
 intro w9 hr9 ho9 hs9 hB9
 have HF := hq (hB9 _ _ (le2 _) HB4.out)
 have HRf := hq hr9
 clear ho9 hs9 hB9 hr9
 obtain ⟨⟨q0, q1, q2, q3, q4, q5, q6, q7⟩, _⟩ := box8_cells HRf.out
 go_wp2
 refine bodyPost_ret (v := .tuple #[PV 0 n d r 0 0 g 0, .bool true]) (by simp only [results, Tryz.results52]; simp [go_sem, q0, q1, q2, q3, q4, q5, q6, q7]) rfl ⟨by rw [HT.out]; rfl, HF.out⟩
end Go.Proofs.YtfhhnelffldggaaGreatDoor
