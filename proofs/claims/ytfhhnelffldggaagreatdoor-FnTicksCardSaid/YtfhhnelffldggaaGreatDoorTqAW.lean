/-
  The mathematics of a device: orders one behind the other, a tick, ticks.
-/
import Derived.Test.YtfhhnelffldggaaGreatDoorTqAC
import Derived.Test.YtfhhnelffldggaaGreatDoorTqAV
import Derived.Test.YtfhhnelffldggaaGreatDoorTqAD
import Derived.Test.YtfhhnelffldggaaGreatDoorTqAI
import Derived.Test.YtfhhnelffldggaaGreatDoorTqAR
set_option maxRecDepth 100000
set_option maxHeartbeats 16000000
namespace Go.Proofs.YtfhhnelffldggaaGreatDoor
open Go.RowKit Go.PlainAid
set_option linter.unusedVariables false
set_option linter.unusedSimpArgs false
structure Tks where
  p : Pm
  r : Int
  s : Bool
def stepK (x : Tks) (o : Od4) : Tks := if o.1 = 5 then ⟨x.p, x.r, true⟩ else ⟨(x.p.take o.1 o.2.1 o.2.2.1 o.2.2.2).1, if (x.p.take o.1 o.2.1 o.2.2.1 o.2.2.2).2 = true then x.r else x.r + 1, x.s⟩
def takeL (x : Tks) (l : List Od4) : Tks := l.foldl stepK x
theorem takeL_cons (x : Tks) (o : Od4) (l : List Od4) : takeL x (o :: l) = takeL (stepK x o) l := rfl
theorem takeL_app (x : Tks) (l k : List Od4) : takeL x (l ++ k) = takeL (takeL x l) k := List.foldl_append ..
theorem takeL_take {l : List Od4} {j : Nat} (h : j < l.length) (x : Tks) : takeL x (l.take (j + 1)) = stepK (takeL x (l.take j)) l[j] := by
  rw [← List.take_append_getElem h, takeL_app]
  rfl
theorem stepK_seen {x : Tks} {o : Od4} (h : o.1 = 5) : stepK x o = ⟨x.p, x.r, true⟩ := if_pos h
theorem stepK_take {x : Tks} {o : Od4} (h : ¬ o.1 = 5) : stepK x o = ⟨(x.p.take o.1 o.2.1 o.2.2.1 o.2.2.2).1, if (x.p.take o.1 o.2.1 o.2.2.1 o.2.2.2).2 = true then x.r else x.r + 1, x.s⟩ := if_neg h
theorem take_g (p : Pm) (k n d v : Int) : (p.take k n d v).1.g = p.g := by
  unfold Pm.take
  repeat' split
  all_goals rfl
theorem stepK_ok {x : Tks} (h : x.p.ok) (o : Od4) : (stepK x o).p.ok ∧ (stepK x o).p.g = x.p.g ∧ x.r ≤ (stepK x o).r ∧ (stepK x o).r ≤ x.r + 1 := by
  by_cases h5 : o.1 = 5
  · rw [stepK_seen h5]
    exact ⟨h, rfl, Int.le_refl _, by show x.r ≤ x.r + 1; omega⟩
  · rw [stepK_take h5]
    refine ⟨take_ok h _ _ _ _, take_g _ _ _ _ _, ?_, ?_⟩
    all_goals dsimp only; split <;> omega
theorem takeL_ok : ∀ (l : List Od4) {x : Tks}, x.p.ok → (takeL x l).p.ok ∧ (takeL x l).p.g = x.p.g ∧ x.r ≤ (takeL x l).r ∧ (takeL x l).r ≤ x.r + l.length
  | [], x, h => ⟨h, rfl, Int.le_refl _, by simp [takeL]⟩
  | o :: l, x, h => by
    obtain ⟨h1, h2, h3, h4⟩ := stepK_ok h o
    obtain ⟨g1, g2, g3, g4⟩ := takeL_ok l h1
    rw [takeL_cons]
    refine ⟨g1, g2.trans h2, by omega, ?_⟩
    rw [List.length_cons]
    omega
structure Dv where
  p : Pm
  l : List Int
  al : Int
  m : Mn
  t : List Tk3
  rf : Int
def newD : Dv := ⟨newP, [], 0, newM, [], 0⟩
structure Ic where
  b : Int
  ks : List UInt8
  lo : List Od4
  lr : Int
def ordsD (D : Dv) (i : Ic) : Tks := takeL ⟨D.p, D.rf + i.lr, false⟩ ((allM D.m i.ks).2 ++ i.lo)
def alD (D : Dv) (i : Ic) : Int := G.feelA true D.al i.b (ordsD D i).s
def numD (D : Dv) (i : Ic) : Int := if alD D i = 0 then G.letG D.l (ordsD D i).p.wants else 0
def pmpD (D : Dv) (i : Ic) : Pm := if alD D i = 0 then (ordsD D i).p.give (numD D i) else (ordsD D i).p
def tickD (D : Dv) (i : Ic) : Dv := ⟨pmpD D i, G.passL true D.l (numD D i), alD D i, (allM D.m i.ks).1, D.t ++ [(numD D i, alD D i, (pmpD D i).s)], (ordsD D i).r⟩
def runD (D : Dv) (l : List Ic) : Dv := l.foldl tickD D
theorem runD_cons (D : Dv) (i : Ic) (l : List Ic) : runD D (i :: l) = runD (tickD D i) l := rfl
theorem runD_app (D : Dv) (l k : List Ic) : runD D (l ++ k) = runD (runD D l) k := List.foldl_append ..
theorem runD_take {l : List Ic} {j : Nat} (h : j < l.length) (D : Dv) : runD D (l.take (j + 1)) = tickD (runD D (l.take j)) l[j] := by
  rw [← List.take_append_getElem h, runD_app]
  rfl
def Ic.ok (i : Ic) : Prop := (0 ≤ i.b ∧ i.b ≤ 15) ∧ i.ks.length ≤ 20 ∧ (i.lo = [] ∨ ∃ o, i.lo = [o]) ∧ (0 ≤ i.lr ∧ i.lr ≤ 1) ∧ (∀ o ∈ i.lo, OrdR o.1 o.2.1 o.2.2.1 o.2.2.2)
structure Dv.ok (D : Dv) : Prop where
  p : D.p.ok
  g : G.GdR D.l D.al
  m : GdM D.m
  r : 0 ≤ D.rf
theorem newD_ok : newD.ok := ⟨new_ok, G.gd_new, GdM.new, Int.le_refl _⟩
theorem lo_len {i : Ic} (h : i.ok) : i.lo.length ≤ 1 := by
  rcases h.2.2.1 with e | ⟨o, e⟩ <;> rw [e] <;> simp
theorem ords_ok {D : Dv} (h : D.ok) {i : Ic} (hi : i.ok) : (ordsD D i).p.ok ∧ (ordsD D i).p.g = D.p.g ∧ D.rf ≤ (ordsD D i).r ∧ (ordsD D i).r ≤ D.rf + 22 := by
  obtain ⟨h1, h2, h3, h4⟩ := takeL_ok ((allM D.m i.ks).2 ++ i.lo) (x := ⟨D.p, D.rf + i.lr, false⟩) h.p
  have e1 := allM_len i.ks D.m
  have e2 := lo_len hi
  have e3 := hi.2.1
  have e4 := hi.2.2.2.1
  rw [List.length_append] at h4
  refine ⟨h1, h2, ?_, ?_⟩
  · have : (⟨D.p, D.rf + i.lr, false⟩ : Tks).r ≤ (ordsD D i).r := h3
    dsimp only at this
    omega
  · have : (ordsD D i).r ≤ (⟨D.p, D.rf + i.lr, false⟩ : Tks).r + (((allM D.m i.ks).2.length + i.lo.length : Nat) : Int) := h4
    dsimp only at this
    omega
theorem tick_ok {D : Dv} (h : D.ok) {i : Ic} (hi : i.ok) : (tickD D i).ok ∧ (tickD D i).t.length = D.t.length + 1 ∧ (tickD D i).rf ≤ D.rf + 22 := by
  obtain ⟨h1, h2, h3, h4⟩ := ords_ok h hi
  refine ⟨⟨?_, G.passL_ok (G.feel_ok h.g true i.b _) true _, GdM.all i.ks h.m, ?_⟩, ?_, h4⟩
  · show (pmpD D i).ok
    unfold pmpD
    split
    · exact give_ok h1 _
    · exact h1
  · show 0 ≤ (ordsD D i).r
    have := h.r
    omega
  · simp [tickD]
theorem run_okD : ∀ (l : List Ic) {D : Dv}, D.ok → (∀ i ∈ l, i.ok) → (runD D l).ok ∧ (runD D l).t.length = D.t.length + l.length ∧ (runD D l).rf ≤ D.rf + 22 * l.length
  | [], D, h, _ => ⟨h, rfl, by simp [runD]⟩
  | i :: l, D, h, hl => by
    obtain ⟨h1, h2, h3⟩ := tick_ok h (hl i (List.mem_cons_self ..))
    obtain ⟨g1, g2, g3⟩ := run_okD l h1 (fun j hj => hl j (List.mem_cons_of_mem _ hj))
    rw [runD_cons]
    refine ⟨g1, ?_, ?_⟩
    · rw [g2, h2, List.length_cons]; omega
    · rw [List.length_cons]
      push_cast
      omega
def LkD (L : ByteArray) (lo : List Od4) (lr : Int) : Prop := (L.size = 0 ∧ lo = [] ∧ lr = 0) ∨ (L.size ≠ 0 ∧ ∃ k n d v b, RdOr L k n d v b ∧ ((b = true ∧ lo = [(k, n, d, v)] ∧ lr = 0) ∨ (b = false ∧ lo = [] ∧ lr = 1)))
theorem LkD.uni {L : ByteArray} {lo lo' : List Od4} {lr lr' : Int} (h : LkD L lo lr) (h' : LkD L lo' lr') : lo = lo' ∧ lr = lr' := by
  rcases h with ⟨h1, rfl, rfl⟩ | ⟨h1, k, n, d, v, b, h2, h3⟩ <;> rcases h' with ⟨g1, rfl, rfl⟩ | ⟨g1, k', n', d', v', b', g2, g3⟩
  · exact ⟨rfl, rfl⟩
  · exact absurd h1 g1
  · exact absurd g1 h1
  · obtain ⟨rfl, rfl, rfl, rfl, rfl⟩ := h2.uni g2
    rcases h3 with ⟨rfl, rfl, rfl⟩ | ⟨rfl, rfl, rfl⟩ <;> rcases g3 with ⟨e, rfl, rfl⟩ | ⟨e, rfl, rfl⟩
    · exact ⟨rfl, rfl⟩
    · cases e
    · cases e
    · exact ⟨rfl, rfl⟩
theorem LkD.ex (L : ByteArray) : ∃ lo lr, LkD L lo lr := by
  by_cases h : L.size = 0
  · exact ⟨[], 0, .inl ⟨h, rfl, rfl⟩⟩
  · by_cases h2 : ∃ k n d v, OrdR k n d v ∧ ordT k n d v = L
    · obtain ⟨k, n, d, v, h3, h4⟩ := h2
      exact ⟨[(k, n, d, v)], 0, .inr ⟨h, k, n, d, v, true, .inl ⟨h3, h4, rfl⟩, .inl ⟨rfl, rfl, rfl⟩⟩⟩
    · exact ⟨[], 1, .inr ⟨h, 0, 0, 0, 0, false, .inr ⟨fun k n d v h3 h4 => h2 ⟨k, n, d, v, h3, h4⟩, rfl, rfl, rfl, rfl, rfl⟩, .inr ⟨rfl, rfl, rfl⟩⟩⟩
theorem LkD.ord {L : ByteArray} {lo : List Od4} {lr : Int} (h : LkD L lo lr) : (lo = [] ∨ ∃ o, lo = [o]) ∧ (0 ≤ lr ∧ lr ≤ 1) ∧ (∀ o ∈ lo, OrdR o.1 o.2.1 o.2.2.1 o.2.2.2) := by
  rcases h with ⟨h1, rfl, rfl⟩ | ⟨h1, k, n, d, v, b, h2, h3⟩
  · exact ⟨.inl rfl, by decide, fun o h => by cases h⟩
  · rcases h3 with ⟨rfl, rfl, rfl⟩ | ⟨rfl, rfl, rfl⟩
    · refine ⟨.inr ⟨_, rfl⟩, by decide, fun o h => ?_⟩
      rw [List.mem_singleton.1 h]
      rcases h2 with ⟨h3, _⟩ | ⟨_, e, _⟩
      · exact h3
      · cases e
    · exact ⟨.inl rfl, by decide, fun o h => by cases h⟩
structure Inp where
  i : Ic
  K : ByteArray
  L : ByteArray
def Inp.ok (x : Inp) : Prop := (⟨x.i.ks.toArray⟩ : ByteArray) = x.K ∧ LkD x.L x.i.lo x.i.lr ∧ (0 ≤ x.i.b ∧ x.i.b ≤ 15) ∧ x.K.size ≤ 20 ∧ x.L.size ≤ 40
theorem Inp.ok.ic {x : Inp} (h : x.ok) : x.i.ok := ⟨h.2.2.1, by have h1 := txt_size h.1; have h2 := h.2.2.2.1; omega, h.2.1.ord⟩
def Inp.V (x : Inp) : Value := .agg #[.int .i64 x.i.b, .string x.K, .string x.L]
end Go.Proofs.YtfhhnelffldggaaGreatDoor
namespace Go.Proofs.YtfhhnelffldggaaGreatDoor
open Go.RowKit Go.PlainAid
def Inp.t3 (x : Inp) : In3 := (x.i.b, x.K, x.L)
def inOkB (x : In3) : Bool := decide ((0 ≤ x.1 ∧ x.1 ≤ 15) ∧ x.2.1.size ≤ 20 ∧ x.2.2.size ≤ 40)
theorem results2_row {fn : Func} {p q : Tmp} {ty : TypeId} (h : fn.results = #[.cell p ty, .tmp q]) (tmps : Array Value) (w : World) (g : Nat) (t : TypeId) (cs : Array Value) (fr : Nat × Nat) (v : Value) (hv : tmps.getD q undef = v)
    (hp : tmps.getD p undef = .pointer (some ⟨g, 0, none⟩)) (hg : w.heap[g]? = some (.cells cs t fr))
    (hu : (match Tryz.prog.underlying ty with | some (.struct _) | some (.array _ _) => true | _ => false) = true) (hi : (Tryz.prog.info? ty).map (·.size) = some cs.size) :
    (results fn tmps).run Tryz.prog w = .ok (.tuple #[.agg cs, v]) w := by
  cases e : Tryz.prog.underlying ty with
  | none => rw [e] at hu; cases hu
  | some d =>
    rw [e] at hu
    have hr : (loadVar ty ⟨g, 0, none⟩).run Tryz.prog w = .ok (.agg cs) w := run_loadVar_row w g t ty cs fr d hg e (by cases d <;> first | rfl | (cases hu)) hi
    have hp' : tmps[p]?.getD undef = .pointer (some ⟨g, 0, none⟩) := by simpa using hp
    have hv' : tmps[q]?.getD undef = v := by simpa using hv
    simp [results, h, hp', hv', asAddr, hr]
set_option linter.unusedVariables false
set_option linter.unusedSimpArgs false
theorem lessS (a b z : Int) (hz : min a b = z) (w : World) : Calls Tryz.prog 108 #[.int .i64 a, .int .i64 b] w fun e w' => e = .returned (.int .i64 z) ∧ w' = w := by
  by_cases h : a < b
  · obtain rfl : a = z := by omega
    clear hz
    go_enter Tryz.func108, Tryz.ntmps108
    go_wp2
    go_ret
    exact ⟨rfl, rfl⟩
  · obtain rfl : b = z := by omega
    clear hz
    go_enter Tryz.func108, Tryz.ntmps108
    go_wp2
    go_ret
    exact ⟨rfl, rfl⟩
theorem wantsS_no (s n d r l b g k : Int) (hp : ¬ Pm.ok ⟨s, n, d, r, l, b, g, k⟩) (w : World) : Calls Tryz.prog 55 #[PV s n d r l b g k] w fun e w' => e = .returned (.int .i64 (Pm.wants ⟨s, n, d, r, l, b, g, k⟩)) ∧ Below w.heap.size w w' := by
  have HT : Hid (Pm.wants ⟨s, n, d, r, l, b, g, k⟩ = 0) := by show _ = _; unfold Pm.wants; rw [ok_no hp]; simp
  have KP : Hid (∀ w, Calls Tryz.prog 94 #[PV s n d r l b g k] w fun e w' => e = .returned (.bool false) ∧ Below w.heap.size w w') := fun w => pumpokS ⟨s, n, d, r, l, b, g, k⟩ false ⟨fun h => (by cases h), fun h => absurd h hp⟩ w
  clear hp
  have HB0 : Hid (Below w.heap.size w (w.alloc (PB s n d r l b g k))) := alP _ _
  have HP0 : Hid ((w.alloc (PB s n d r l b g k)).heap[w.heap.size]? = some (PB s n d r l b g k)) := heap_new w _
  have p0 := box8_cells HP0.out
  go_enter Tryz.func55, Tryz.ntmps55
  go_wp2_with fail
  refine Calls.mono (KP.out _) ?_
  rintro e w1 ⟨rfl, hb1⟩
  have HB1 := bq HB0 hb1
  have HP1 : Hid (w1.heap[w.heap.size]? = some (PB s n d r l b g k)) := row_on HP0.out hb1
  have p1 := box8_cells HP1.out
  clear hb1 HB0 HP0 p0
  go_wp2
  go_ret
  exact ⟨by rw [HT.out]; rfl, HB1.out⟩
theorem wantsS_0 (n d r l b g k : Int) (hp : Pm.ok ⟨0, n, d, r, l, b, g, k⟩) (w : World) : Calls Tryz.prog 55 #[PV 0 n d r l b g k] w fun e w' => e = .returned (.int .i64 (Pm.wants ⟨0, n, d, r, l, b, g, k⟩)) ∧ Below w.heap.size w w' := by
  have HT : Hid (Pm.wants ⟨0, n, d, r, l, b, g, k⟩ = 0) := by show _ = _; unfold Pm.wants; simp
  have KP : Hid (∀ w, Calls Tryz.prog 94 #[PV 0 n d r l b g k] w fun e w' => e = .returned (.bool true) ∧ Below w.heap.size w w') := fun w => pumpokS ⟨0, n, d, r, l, b, g, k⟩ true ⟨fun _ => hp, fun _ => rfl⟩ w
  clear hp
  have HB0 : Hid (Below w.heap.size w (w.alloc (PB 0 n d r l b g k))) := alP _ _
  have HP0 : Hid ((w.alloc (PB 0 n d r l b g k)).heap[w.heap.size]? = some (PB 0 n d r l b g k)) := heap_new w _
  have p0 := box8_cells HP0.out
  go_enter Tryz.func55, Tryz.ntmps55
  go_wp2_with fail
  refine Calls.mono (KP.out _) ?_
  rintro e w1 ⟨rfl, hb1⟩
  have HB1 := bq HB0 hb1
  have HP1 : Hid (w1.heap[w.heap.size]? = some (PB 0 n d r l b g k)) := row_on HP0.out hb1
  have p1 := box8_cells HP1.out
  clear hb1 HB0 HP0 p0
  go_wp2
  go_ret
  exact ⟨by rw [HT.out]; rfl, HB1.out⟩
theorem wantsS_3 (n d r l b g k : Int) (hp : Pm.ok ⟨3, n, d, r, l, b, g, k⟩) (w : World) : Calls Tryz.prog 55 #[PV 3 n d r l b g k] w fun e w' => e = .returned (.int .i64 (Pm.wants ⟨3, n, d, r, l, b, g, k⟩)) ∧ Below w.heap.size w w' := by
  have HT : Hid (Pm.wants ⟨3, n, d, r, l, b, g, k⟩ = 0) := by show _ = _; unfold Pm.wants; simp
  have KP : Hid (∀ w, Calls Tryz.prog 94 #[PV 3 n d r l b g k] w fun e w' => e = .returned (.bool true) ∧ Below w.heap.size w w') := fun w => pumpokS ⟨3, n, d, r, l, b, g, k⟩ true ⟨fun _ => hp, fun _ => rfl⟩ w
  clear hp
  have HB0 : Hid (Below w.heap.size w (w.alloc (PB 3 n d r l b g k))) := alP _ _
  have HP0 : Hid ((w.alloc (PB 3 n d r l b g k)).heap[w.heap.size]? = some (PB 3 n d r l b g k)) := heap_new w _
  have p0 := box8_cells HP0.out
  go_enter Tryz.func55, Tryz.ntmps55
  go_wp2_with fail
  refine Calls.mono (KP.out _) ?_
  rintro e w1 ⟨rfl, hb1⟩
  have HB1 := bq HB0 hb1
  have HP1 : Hid (w1.heap[w.heap.size]? = some (PB 3 n d r l b g k)) := row_on HP0.out hb1
  have p1 := box8_cells HP1.out
  clear hb1 HB0 HP0 p0
  go_wp2
  go_ret
  exact ⟨by rw [HT.out]; rfl, HB1.out⟩
theorem wantsS_1 (n d r l b g k : Int) (hp : Pm.ok ⟨1, n, d, r, l, b, g, k⟩) (w : World) : Calls Tryz.prog 55 #[PV 1 n d r l b g k] w fun e w' => e = .returned (.int .i64 (Pm.wants ⟨1, n, d, r, l, b, g, k⟩)) ∧ Below w.heap.size w w' := by
  obtain ⟨y, hy⟩ : ∃ y, (r + n) / d = y := ⟨_, rfl⟩
  have hrt := rate_bd hp
  unfold Pm.rate at hrt
  dsimp only at hrt
  rw [hy] at hrt
  obtain ⟨y0, y1⟩ := hrt
  have hpb : (0 : Int) ≤ b ∧ b ≤ 100 := hp.2.2.2.2.2.1
  have hpl : (0 : Int) ≤ l ∧ l ≤ 5000 := hp.2.2.2.1
  obtain ⟨x, hx⟩ : ∃ x, min y l = x := ⟨_, rfl⟩
  obtain ⟨q, hq⟩ : ∃ q, min b 3 = q := ⟨_, rfl⟩
  have HX : Hid (min y l = x) := hx
  have HQ : Hid (min b 3 = q) := hq
  have hrr : ratR n d r := hp.2.1
  have KR : Hid (∀ w, Calls Tryz.prog 110 #[.agg #[.int .i64 n, .int .i64 d, .int .i64 r]] w fun e w' => e = .returned (.tuple #[.agg #[.int .i64 n, .int .i64 d, .int .i64 ((r + n) % d)], .int .i64 y]) ∧ Below w.heap.size w w') := fun w => by
    have h := stepRS n d r w
    rw [show stepR n d r = (r + n) % d from if_pos hrr, show stepO n d r = y from (if_pos hrr).trans hy] at h
    exact h
  have HT : Hid (Pm.wants ⟨1, n, d, r, l, b, g, k⟩ = x + q) := by
    show _ = _
    unfold Pm.wants Pm.base Pm.rate
    rw [ok_yes hp]
    simp [hy, hx, hq]
  have e1 : IntKind.i64.wrap (x + q) = x + q := wrap_in (by omega) (by omega)
  have KP : Hid (∀ w, Calls Tryz.prog 94 #[PV 1 n d r l b g k] w fun e w' => e = .returned (.bool true) ∧ Below w.heap.size w w') := fun w => pumpokS ⟨1, n, d, r, l, b, g, k⟩ true ⟨fun _ => hp, fun _ => rfl⟩ w
  clear hp hrr hy hx hq hpb hpl y0 y1
  have HB0 : Hid (Below w.heap.size w (w.alloc (PB 1 n d r l b g k))) := alP _ _
  have HP0 : Hid ((w.alloc (PB 1 n d r l b g k)).heap[w.heap.size]? = some (PB 1 n d r l b g k)) := heap_new w _
  have p0 := box8_cells HP0.out
  go_enter Tryz.func55, Tryz.ntmps55
  go_wp2_with fail
  refine Calls.mono (KP.out _) ?_
  rintro e w1 ⟨rfl, hb1⟩
  have HB1 := bq HB0 hb1
  have HP1 : Hid (w1.heap[w.heap.size]? = some (PB 1 n d r l b g k)) := row_on HP0.out hb1
  have p1 := box8_cells HP1.out
  clear hb1 HB0 HP0 p0
  go_wp2_with fail
  refine Calls.mono (KR.out _) ?_
  rintro e w2 ⟨rfl, hb2⟩
  obtain ⟨r', hr'⟩ : ∃ z, (r + n) % d = z := ⟨_, rfl⟩
  rw [hr']
  have HB2 : Hid (Below w.heap.size w (w2.alloc (.cells #[.int .i64 n, .int .i64 d, .int .i64 r'] 27))) := bel_on (Nat.le_refl _) (bel_on (Nat.le_refl _) HB1.out hb2) (alP _ _)
  have HP2 : Hid ((w2.alloc (.cells #[.int .i64 n, .int .i64 d, .int .i64 r'] 27)).heap[w.heap.size]? = some (PB 1 n d r l b g k)) := row_on (row_on HP1.out hb2) (alP _ _)
  have p2 := box8_cells HP2.out
  clear hb2 HB1 HP1 p1 hr' KR KP
  go_wp2_with fail
  refine (lessS y l x HX.out _).mono ?_
  rintro e wz ⟨rfl, rfl⟩
  go_wp2_with fail
  refine (lessS b 3 q HQ.out _).mono ?_
  rintro e wz ⟨rfl, rfl⟩
  go_wp2
  go_ret
  exact ⟨by rw [HT.out]; rfl, HB2.out⟩
theorem wantsS_2 (n d r l b g k : Int) (hp : Pm.ok ⟨2, n, d, r, l, b, g, k⟩) (w : World) : Calls Tryz.prog 55 #[PV 2 n d r l b g k] w fun e w' => e = .returned (.int .i64 (Pm.wants ⟨2, n, d, r, l, b, g, k⟩)) ∧ Below w.heap.size w w' := by
  obtain ⟨y, hy⟩ : ∃ y, (r + n) / d = y := ⟨_, rfl⟩
  have hrt := rate_bd hp
  unfold Pm.rate at hrt
  dsimp only at hrt
  rw [hy] at hrt
  obtain ⟨y0, y1⟩ := hrt
  have hpb : (0 : Int) ≤ b ∧ b ≤ 100 := hp.2.2.2.2.2.1
  have hpl : (0 : Int) ≤ l ∧ l ≤ 5000 := hp.2.2.2.1
  obtain ⟨x, hx⟩ : ∃ x, min y l = x := ⟨_, rfl⟩
  obtain ⟨q, hq⟩ : ∃ q, min b 3 = q := ⟨_, rfl⟩
  have HX : Hid (min y l = x) := hx
  have HQ : Hid (min b 3 = q) := hq
  have hrr : ratR n d r := hp.2.1
  have KR : Hid (∀ w, Calls Tryz.prog 110 #[.agg #[.int .i64 n, .int .i64 d, .int .i64 r]] w fun e w' => e = .returned (.tuple #[.agg #[.int .i64 n, .int .i64 d, .int .i64 ((r + n) % d)], .int .i64 y]) ∧ Below w.heap.size w w') := fun w => by
    have h := stepRS n d r w
    rw [show stepR n d r = (r + n) % d from if_pos hrr, show stepO n d r = y from (if_pos hrr).trans hy] at h
    exact h
  have HT : Hid (Pm.wants ⟨2, n, d, r, l, b, g, k⟩ = y + q) := by
    show _ = _
    unfold Pm.wants Pm.base Pm.rate
    rw [ok_yes hp]
    simp [hy, hx, hq]
  have e1 : IntKind.i64.wrap (y + q) = y + q := wrap_in (by omega) (by omega)
  have KP : Hid (∀ w, Calls Tryz.prog 94 #[PV 2 n d r l b g k] w fun e w' => e = .returned (.bool true) ∧ Below w.heap.size w w') := fun w => pumpokS ⟨2, n, d, r, l, b, g, k⟩ true ⟨fun _ => hp, fun _ => rfl⟩ w
  clear hp hrr hy hx hq hpb hpl y0 y1
  have HB0 : Hid (Below w.heap.size w (w.alloc (PB 2 n d r l b g k))) := alP _ _
  have HP0 : Hid ((w.alloc (PB 2 n d r l b g k)).heap[w.heap.size]? = some (PB 2 n d r l b g k)) := heap_new w _
  have p0 := box8_cells HP0.out
  go_enter Tryz.func55, Tryz.ntmps55
  go_wp2_with fail
  refine Calls.mono (KP.out _) ?_
  rintro e w1 ⟨rfl, hb1⟩
  have HB1 := bq HB0 hb1
  have HP1 : Hid (w1.heap[w.heap.size]? = some (PB 2 n d r l b g k)) := row_on HP0.out hb1
  have p1 := box8_cells HP1.out
  clear hb1 HB0 HP0 p0
  go_wp2_with fail
  refine Calls.mono (KR.out _) ?_
  rintro e w2 ⟨rfl, hb2⟩
  obtain ⟨r', hr'⟩ : ∃ z, (r + n) % d = z := ⟨_, rfl⟩
  rw [hr']
  have HB2 : Hid (Below w.heap.size w (w2.alloc (.cells #[.int .i64 n, .int .i64 d, .int .i64 r'] 27))) := bel_on (Nat.le_refl _) (bel_on (Nat.le_refl _) HB1.out hb2) (alP _ _)
  have HP2 : Hid ((w2.alloc (.cells #[.int .i64 n, .int .i64 d, .int .i64 r'] 27)).heap[w.heap.size]? = some (PB 2 n d r l b g k)) := row_on (row_on HP1.out hb2) (alP _ _)
  have p2 := box8_cells HP2.out
  clear hb2 HB1 HP1 p1 hr' KR KP
  go_wp2_with fail
  refine (lessS b 3 q HQ.out _).mono ?_
  rintro e wz ⟨rfl, rfl⟩
  go_wp2
  go_ret
  exact ⟨by rw [HT.out]; rfl, HB2.out⟩
theorem wantsS (p : Pm) (w : World) : Calls Tryz.prog 55 #[p.V] w fun e w' => e = .returned (.int .i64 p.wants) ∧ Below w.heap.size w w' := by
  obtain ⟨s, n, d, r, l, b, g, k⟩ := p
  by_cases hp : Pm.ok ⟨s, n, d, r, l, b, g, k⟩
  · have hs : s = 0 ∨ s = 1 ∨ s = 2 ∨ s = 3 := by have := hp.1; dsimp only at this; omega
    rcases hs with rfl | rfl | rfl | rfl
    · exact wantsS_0 n d r l b g k hp w
    · exact wantsS_1 n d r l b g k hp w
    · exact wantsS_2 n d r l b g k hp w
    · exact wantsS_3 n d r l b g k hp w
  · exact wantsS_no s n d r l b g k hp w
theorem giveS_no (s n d r l b g k a : Int) (hp : ¬ Pm.ok ⟨s, n, d, r, l, b, g, k⟩) (w : World) : Calls Tryz.prog 56 #[PV s n d r l b g k, .int .i64 a] w fun e w' => e = .returned (Pm.give ⟨s, n, d, r, l, b, g, k⟩ a).V ∧ Below w.heap.size w w' := by
  have HT : Hid (Pm.give ⟨s, n, d, r, l, b, g, k⟩ a = ⟨s, n, d, r, l, b, g, k⟩) := by show _ = _; unfold Pm.give; rw [ok_no hp]; simp
  have KP : Hid (∀ w, Calls Tryz.prog 94 #[PV s n d r l b g k] w fun e w' => e = .returned (.bool false) ∧ Below w.heap.size w w') := fun w => pumpokS ⟨s, n, d, r, l, b, g, k⟩ false ⟨fun h => (by cases h), fun h => absurd h hp⟩ w
  clear hp
  have HB0 : Hid (Below w.heap.size w ((w.alloc (PB s n d r l b g k)).alloc (PB 0 0 0 0 0 0 0 0))) := bel_on (Nat.le_refl _) (alP _ _) (alP _ _)
  have HP0 : Hid (((w.alloc (PB s n d r l b g k)).alloc (PB 0 0 0 0 0 0 0 0)).heap[w.heap.size]? = some (PB s n d r l b g k)) := row_on (heap_new w _) (alP _ _)
  have HZ0 : Hid (((w.alloc (PB s n d r l b g k)).alloc (PB 0 0 0 0 0 0 0 0)).heap[w.heap.size + 1]? = some (PB 0 0 0 0 0 0 0 0)) := al_at (w.alloc (PB s n d r l b g k)) _ (by simp)
  have p0 := box8_cells HP0.out
  go_enter Tryz.func56, Tryz.ntmps56
  go_wp2_with fail
  refine Calls.mono (KP.out _) ?_
  rintro e w1 ⟨rfl, hb1⟩
  have HB1 := bq HB0 hb1
  have HP1 : Hid (w1.heap[w.heap.size]? = some (PB s n d r l b g k)) := row_on HP0.out hb1
  have HZ1 : Hid (w1.heap[w.heap.size + 1]? = some (PB 0 0 0 0 0 0 0 0)) := row_on HZ0.out hb1
  have p1 := box8_cells HP1.out
  clear hb1 HB0 HP0 HZ0 p0
  go_upto_region 2 with fail
  go_wp2_with (refine listStoreP rfl rfl _ _ _ rfl rfl (w.heap.size + 1) (s) (n) (d) (r) (l) (b) (g) (k) rfl rfl HZ1.out ?_)
  intro w99 hr9 ho9 hs9 hB9
  have HF : Hid (Below w.heap.size w w99) := hB9 _ _ (Nat.le_succ _) HB1.out
  obtain ⟨⟨q0, q1, q2, q3, q4, q5, q6, q7⟩, _⟩ := box8_cells hr9
  clear ho9 hs9 hB9 hr9
  go_wp2
  refine bodyPost_ret (v := PV s n d r l b g k) (by simp only [results, Tryz.results56]; simp [go_sem, q0, q1, q2, q3, q4, q5, q6, q7]) rfl ⟨by rw [HT.out]; rfl, HF.out⟩
theorem giveS_0 (n d r l b g k a : Int) (hp : Pm.ok ⟨0, n, d, r, l, b, g, k⟩) (w : World) : Calls Tryz.prog 56 #[PV 0 n d r l b g k, .int .i64 a] w fun e w' => e = .returned (Pm.give ⟨0, n, d, r, l, b, g, k⟩ a).V ∧ Below w.heap.size w w' := by
  have HT : Hid (Pm.give ⟨0, n, d, r, l, b, g, k⟩ a = ⟨0, n, d, r, l, b, g, k⟩) := by show _ = _; unfold Pm.give; simp
  have KP : Hid (∀ w, Calls Tryz.prog 94 #[PV 0 n d r l b g k] w fun e w' => e = .returned (.bool true) ∧ Below w.heap.size w w') := fun w => pumpokS ⟨0, n, d, r, l, b, g, k⟩ true ⟨fun _ => hp, fun _ => rfl⟩ w
  clear hp
  have HB0 : Hid (Below w.heap.size w ((w.alloc (PB 0 n d r l b g k)).alloc (PB 0 0 0 0 0 0 0 0))) := bel_on (Nat.le_refl _) (alP _ _) (alP _ _)
  have HP0 : Hid (((w.alloc (PB 0 n d r l b g k)).alloc (PB 0 0 0 0 0 0 0 0)).heap[w.heap.size]? = some (PB 0 n d r l b g k)) := row_on (heap_new w _) (alP _ _)
  have HZ0 : Hid (((w.alloc (PB 0 n d r l b g k)).alloc (PB 0 0 0 0 0 0 0 0)).heap[w.heap.size + 1]? = some (PB 0 0 0 0 0 0 0 0)) := al_at (w.alloc (PB 0 n d r l b g k)) _ (by simp)
  have p0 := box8_cells HP0.out
  go_enter Tryz.func56, Tryz.ntmps56
  go_wp2_with fail
  refine Calls.mono (KP.out _) ?_
  rintro e w1 ⟨rfl, hb1⟩
  have HB1 := bq HB0 hb1
  have HP1 : Hid (w1.heap[w.heap.size]? = some (PB 0 n d r l b g k)) := row_on HP0.out hb1
  have HZ1 : Hid (w1.heap[w.heap.size + 1]? = some (PB 0 0 0 0 0 0 0 0)) := row_on HZ0.out hb1
  have p1 := box8_cells HP1.out
  clear hb1 HB0 HP0 HZ0 p0
  go_upto_region 2 with fail
  go_wp2_with (refine listStoreP rfl rfl _ _ _ rfl rfl (w.heap.size + 1) (0) (n) (d) (r) (l) (b) (g) (k) rfl rfl HZ1.out ?_)
  intro w99 hr9 ho9 hs9 hB9
  have HF : Hid (Below w.heap.size w w99) := hB9 _ _ (Nat.le_succ _) HB1.out
  obtain ⟨⟨q0, q1, q2, q3, q4, q5, q6, q7⟩, _⟩ := box8_cells hr9
  clear ho9 hs9 hB9 hr9
  go_wp2
  refine bodyPost_ret (v := PV 0 n d r l b g k) (by simp only [results, Tryz.results56]; simp [go_sem, q0, q1, q2, q3, q4, q5, q6, q7]) rfl ⟨by rw [HT.out]; rfl, HF.out⟩
theorem giveS_3 (n d r l b g k a : Int) (hp : Pm.ok ⟨3, n, d, r, l, b, g, k⟩) (w : World) : Calls Tryz.prog 56 #[PV 3 n d r l b g k, .int .i64 a] w fun e w' => e = .returned (Pm.give ⟨3, n, d, r, l, b, g, k⟩ a).V ∧ Below w.heap.size w w' := by
  have HT : Hid (Pm.give ⟨3, n, d, r, l, b, g, k⟩ a = ⟨3, n, d, r, l, b, g, k⟩) := by show _ = _; unfold Pm.give; simp
  have KP : Hid (∀ w, Calls Tryz.prog 94 #[PV 3 n d r l b g k] w fun e w' => e = .returned (.bool true) ∧ Below w.heap.size w w') := fun w => pumpokS ⟨3, n, d, r, l, b, g, k⟩ true ⟨fun _ => hp, fun _ => rfl⟩ w
  clear hp
  have HB0 : Hid (Below w.heap.size w ((w.alloc (PB 3 n d r l b g k)).alloc (PB 0 0 0 0 0 0 0 0))) := bel_on (Nat.le_refl _) (alP _ _) (alP _ _)
  have HP0 : Hid (((w.alloc (PB 3 n d r l b g k)).alloc (PB 0 0 0 0 0 0 0 0)).heap[w.heap.size]? = some (PB 3 n d r l b g k)) := row_on (heap_new w _) (alP _ _)
  have HZ0 : Hid (((w.alloc (PB 3 n d r l b g k)).alloc (PB 0 0 0 0 0 0 0 0)).heap[w.heap.size + 1]? = some (PB 0 0 0 0 0 0 0 0)) := al_at (w.alloc (PB 3 n d r l b g k)) _ (by simp)
  have p0 := box8_cells HP0.out
  go_enter Tryz.func56, Tryz.ntmps56
  go_wp2_with fail
  refine Calls.mono (KP.out _) ?_
  rintro e w1 ⟨rfl, hb1⟩
  have HB1 := bq HB0 hb1
  have HP1 : Hid (w1.heap[w.heap.size]? = some (PB 3 n d r l b g k)) := row_on HP0.out hb1
  have HZ1 : Hid (w1.heap[w.heap.size + 1]? = some (PB 0 0 0 0 0 0 0 0)) := row_on HZ0.out hb1
  have p1 := box8_cells HP1.out
  clear hb1 HB0 HP0 HZ0 p0
  go_upto_region 2 with fail
  go_wp2_with (refine listStoreP rfl rfl _ _ _ rfl rfl (w.heap.size + 1) (3) (n) (d) (r) (l) (b) (g) (k) rfl rfl HZ1.out ?_)
  intro w99 hr9 ho9 hs9 hB9
  have HF : Hid (Below w.heap.size w w99) := hB9 _ _ (Nat.le_succ _) HB1.out
  obtain ⟨⟨q0, q1, q2, q3, q4, q5, q6, q7⟩, _⟩ := box8_cells hr9
  clear ho9 hs9 hB9 hr9
  go_wp2
  refine bodyPost_ret (v := PV 3 n d r l b g k) (by simp only [results, Tryz.results56]; simp [go_sem, q0, q1, q2, q3, q4, q5, q6, q7]) rfl ⟨by rw [HT.out]; rfl, HF.out⟩
theorem giveS_1 (n d r l b g k a m W c q B x L G g2 r' y : Int) (KP : Hid (∀ w, Calls Tryz.prog 94 #[PV 1 n d r l b g k] w fun e w' => e = .returned (.bool true) ∧ Below w.heap.size w w')) (KW : Hid (∀ w, Calls Tryz.prog 55 #[PV 1 n d r l b g k] w fun e w' => e = .returned (.int .i64 W) ∧ Below w.heap.size w w')) (KR : Hid (∀ w, Calls Tryz.prog 110 #[.agg #[.int .i64 n, .int .i64 d, .int .i64 r]] w fun e w' => e = .returned (.tuple #[.agg #[.int .i64 n, .int .i64 d, .int .i64 r'], .int .i64 y]) ∧ Below w.heap.size w w')) (hm : Hid (min a W = m)) (hq : Hid (min b 3 = q)) (hc : Hid (min m q = c)) (hg2 : Hid (min G 1000000000000 = g2)) (hneg : 0 ≤ m) (eB : IntKind.i64.wrap (b - c) = B) (eG : IntKind.i64.wrap (g + m) = G) (ex : IntKind.i64.wrap (m - c) = x) (eL : IntKind.i64.wrap (l - x) = L) (hL : ¬ L = 0) (HT : Hid (Pm.give ⟨1, n, d, r, l, b, g, k⟩ a = ⟨1, n, d, r', L, B, g2, k⟩)) (w : World) : Calls Tryz.prog 56 #[PV 1 n d r l b g k, .int .i64 a] w fun e w' => e = .returned (Pm.give ⟨1, n, d, r, l, b, g, k⟩ a).V ∧ Below w.heap.size w w' := by
  have qL : (L == 0) = false := by simpa using hL
  have HB0 : Hid (Below w.heap.size w ((w.alloc (PB 1 n d r l b g k)).alloc (PB 0 0 0 0 0 0 0 0))) := bel_on (Nat.le_refl _) (alP _ _) (alP _ _)
  have HP0 : Hid (((w.alloc (PB 1 n d r l b g k)).alloc (PB 0 0 0 0 0 0 0 0)).heap[w.heap.size]? = some (PB 1 n d r l b g k)) := row_on (heap_new w _) (alP _ _)
  have HZ0 : Hid (((w.alloc (PB 1 n d r l b g k)).alloc (PB 0 0 0 0 0 0 0 0)).heap[w.heap.size + 1]? = some (PB 0 0 0 0 0 0 0 0)) := al_at (w.alloc (PB 1 n d r l b g k)) _ (by simp)
  have p0 := box8_cells HP0.out
  go_enter Tryz.func56, Tryz.ntmps56
  go_wp2_with fail
  refine Calls.mono (KP.out _) ?_
  rintro e w1 ⟨rfl, hb1⟩
  have HB1 := bq HB0 hb1
  have HP1 : Hid (w1.heap[w.heap.size]? = some (PB 1 n d r l b g k)) := row_on HP0.out hb1
  have HZ1 : Hid (w1.heap[w.heap.size + 1]? = some (PB 0 0 0 0 0 0 0 0)) := row_on HZ0.out hb1
  have p1 := box8_cells HP1.out
  clear hb1 HB0 HP0 HZ0 p0
  go_wp2_with fail
  refine Calls.mono (KW.out _) ?_
  rintro e w2 ⟨rfl, hb2⟩
  have HB2 := bq HB1 hb2
  have HP2 : Hid (w2.heap[w.heap.size]? = some (PB 1 n d r l b g k)) := row_on HP1.out hb2
  have HZ2 : Hid (w2.heap[w.heap.size + 1]? = some (PB 0 0 0 0 0 0 0 0)) := row_on HZ1.out hb2
  have p2 := box8_cells HP2.out
  have hl2 := row_lt HZ2.out
  clear hb2 HB1 HP1 HZ1 p1 KP KW
  go_wp2_with fail
  refine (lessS a W m hm.out _).mono ?_
  rintro e wz ⟨rfl, hwz⟩
  subst hwz
  have HN2 : Hid ((wz.alloc (PB 0 0 0 0 0 0 0 0)).heap[wz.heap.size]? = some (PB 0 0 0 0 0 0 0 0)) := heap_new wz _
  have HPa : Hid ((wz.alloc (PB 0 0 0 0 0 0 0 0)).heap[w.heap.size]? = some (PB 1 n d r l b g k)) := row_on HP2.out (alP _ _)
  have HZa : Hid ((wz.alloc (PB 0 0 0 0 0 0 0 0)).heap[w.heap.size + 1]? = some (PB 0 0 0 0 0 0 0 0)) := row_on HZ2.out (alP _ _)
  have HBa : Hid (Below w.heap.size w (wz.alloc (PB 0 0 0 0 0 0 0 0))) := bel_on (Nat.le_refl _) HB2.out (alP _ _)
  go_upto_region 6 with fail
  go_wp2_with (refine listStoreP rfl rfl _ _ _ rfl rfl wz.heap.size (1) (n) (d) (r) (l) (b) (g) (k) rfl rfl HN2.out ?_)
  intro w3 hr3 ho3 hs3 hB3
  obtain ⟨Q, hQ⟩ : ∃ Q, wz.heap.size = Q := ⟨_, rfl⟩
  rw [hQ] at hr3 ho3 hB3 hl2
  have hl : w.heap.size ≤ Q := by omega
  have HB3 : Hid (Below w.heap.size w w3) := hB3 _ _ hl HBa.out
  have HN3 : Hid (w3.heap[Q]? = some (PB 1 n d r l b g k)) := hr3
  have HP3 : Hid (w3.heap[w.heap.size]? = some (PB 1 n d r l b g k)) := (ho3 _ (by omega)).trans HPa.out
  have HZ3 : Hid (w3.heap[w.heap.size + 1]? = some (PB 0 0 0 0 0 0 0 0)) := (ho3 _ (by omega)).trans HZa.out
  have p3 := box8_cells HP3.out
  have n3 := box8_cells HN3.out
  rw [hQ]
  clear hr3 ho3 hs3 hB3 HN2 HPa HZa HBa HP2 HZ2 HB2 p2 hQ
  go_wp2_with fail
  refine Calls.mono (KR.out _) ?_
  rintro e w4 ⟨rfl, hb4⟩
  have HB4 := bq HB3 hb4
  have HN4 : Hid (w4.heap[Q]? = some (PB 1 n d r l b g k)) := row_on HN3.out hb4
  have HP4 : Hid (w4.heap[w.heap.size]? = some (PB 1 n d r l b g k)) := row_on HP3.out hb4
  have HZ4 : Hid (w4.heap[w.heap.size + 1]? = some (PB 0 0 0 0 0 0 0 0)) := row_on HZ3.out hb4
  have p4 := box8_cells HP4.out
  have n4 := box8_cells HN4.out
  clear hb4 HB3 HN3 HP3 HZ3 p3 n3 KR
  go_wp2_with (refine listStoreR rfl rfl _ _ _ rfl rfl Q (n) (d) (r') rfl rfl HN4.out ?_)
  intro w5 hr ho hs hB
  have HB5 : Hid (Below w.heap.size w w5) := hB _ _ hl HB4.out
  have HN5 : Hid (w5.heap[Q]? = some (PB 1 n d r' l b g k)) := hr
  have HP5 : Hid (w5.heap[w.heap.size]? = some (PB 1 n d r l b g k)) := (ho _ (by omega)).trans HP4.out
  have HZ5 : Hid (w5.heap[w.heap.size + 1]? = some (PB 0 0 0 0 0 0 0 0)) := (ho _ (by omega)).trans HZ4.out
  have p5 := box8_cells HP5.out
  have n5 := box8_cells HN5.out
  clear hr ho hs hB HB4 HN4 HP4 HZ4 p4 n4
  go_wp2_with fail
  refine (lessS b 3 q hq.out _).mono ?_
  rintro e wz ⟨rfl, hwz⟩
  subst hwz
  go_wp2_with fail
  refine (lessS m q c hc.out _).mono ?_
  rintro e wz ⟨rfl, hwz⟩
  subst hwz
  go_upto_region 9 with fail
  go_wp2_with (refine listStoreC rfl rfl _ _ _ rfl rfl Q 5 (B) rfl rfl HN5.out (by simp) ?_)
  intro w6 hr ho hs hB
  have HB6 : Hid (Below w.heap.size w w6) := hB _ _ hl HB5.out
  have HN6 : Hid (w6.heap[Q]? = some (PB 1 n d r' l B g k)) := hr
  have HP6 : Hid (w6.heap[w.heap.size]? = some (PB 1 n d r l b g k)) := (ho _ (by omega)).trans HP5.out
  have HZ6 : Hid (w6.heap[w.heap.size + 1]? = some (PB 0 0 0 0 0 0 0 0)) := (ho _ (by omega)).trans HZ5.out
  have p6 := box8_cells HP6.out
  have n6 := box8_cells HN6.out
  clear hr ho hs hB HB5 HN5 HP5 HZ5 p5 n5
  go_upto_region 11 with fail
  go_wp2_with (refine listStoreC rfl rfl _ _ _ rfl rfl Q 4 (L) rfl rfl HN6.out (by simp) ?_)
  intro w7 hr ho hs hB
  have HB7 : Hid (Below w.heap.size w w7) := hB _ _ hl HB6.out
  have HN7 : Hid (w7.heap[Q]? = some (PB 1 n d r' L B g k)) := hr
  have HP7 : Hid (w7.heap[w.heap.size]? = some (PB 1 n d r l b g k)) := (ho _ (by omega)).trans HP6.out
  have HZ7 : Hid (w7.heap[w.heap.size + 1]? = some (PB 0 0 0 0 0 0 0 0)) := (ho _ (by omega)).trans HZ6.out
  have p7 := box8_cells HP7.out
  have n7 := box8_cells HN7.out
  clear hr ho hs hB HB6 HN6 HP6 HZ6 p6 n6
  go_wp2_with fail
  refine (lessS G 1000000000000 g2 hg2.out _).mono ?_
  rintro e wz ⟨rfl, hwz⟩
  subst hwz
  go_wp2_with (refine listStoreC rfl rfl _ _ _ rfl rfl Q 6 (g2) rfl rfl HN7.out (by simp) ?_)
  intro w8 hr ho hs hB
  have HB8 : Hid (Below w.heap.size w w8) := hB _ _ hl HB7.out
  have HN8 : Hid (w8.heap[Q]? = some (PB 1 n d r' L B g2 k)) := hr
  have HP8 : Hid (w8.heap[w.heap.size]? = some (PB 1 n d r l b g k)) := (ho _ (by omega)).trans HP7.out
  have HZ8 : Hid (w8.heap[w.heap.size + 1]? = some (PB 0 0 0 0 0 0 0 0)) := (ho _ (by omega)).trans HZ7.out
  have p8 := box8_cells HP8.out
  have n8 := box8_cells HN8.out
  clear hr ho hs hB HB7 HN7 HP7 HZ7 p7 n7
  go_upto_region 16 with fail
  go_wp2_with (refine listStoreP rfl rfl _ _ _ rfl rfl (w.heap.size + 1) (1) (n) (d) (r') (L) (B) (g2) (k) rfl rfl HZ8.out ?_)
  intro w99 hr9 ho9 hs9 hB9
  have HF : Hid (Below w.heap.size w w99) := hB9 _ _ (Nat.le_succ _) HB8.out
  obtain ⟨⟨q0, q1, q2, q3, q4, q5, q6, q7⟩, _⟩ := box8_cells hr9
  clear ho9 hs9 hB9 hr9
  go_wp2
  refine bodyPost_ret (v := PV 1 n d r' L B g2 k) (by simp only [results, Tryz.results56]; simp [go_sem, q0, q1, q2, q3, q4, q5, q6, q7]) rfl ⟨by rw [HT.out]; rfl, HF.out⟩
theorem giveS_1z (n d r l b g k a m W c q B x G g2 r' y : Int) (KP : Hid (∀ w, Calls Tryz.prog 94 #[PV 1 n d r l b g k] w fun e w' => e = .returned (.bool true) ∧ Below w.heap.size w w')) (KW : Hid (∀ w, Calls Tryz.prog 55 #[PV 1 n d r l b g k] w fun e w' => e = .returned (.int .i64 W) ∧ Below w.heap.size w w')) (KR : Hid (∀ w, Calls Tryz.prog 110 #[.agg #[.int .i64 n, .int .i64 d, .int .i64 r]] w fun e w' => e = .returned (.tuple #[.agg #[.int .i64 n, .int .i64 d, .int .i64 r'], .int .i64 y]) ∧ Below w.heap.size w w')) (hm : Hid (min a W = m)) (hq : Hid (min b 3 = q)) (hc : Hid (min m q = c)) (hg2 : Hid (min G 1000000000000 = g2)) (hneg : 0 ≤ m) (eB : IntKind.i64.wrap (b - c) = B) (eG : IntKind.i64.wrap (g + m) = G) (ex : IntKind.i64.wrap (m - c) = x) (eL : IntKind.i64.wrap (l - x) = 0) (HT : Hid (Pm.give ⟨1, n, d, r, l, b, g, k⟩ a = ⟨2, 1, 50, 0, 0, B, g2, k⟩)) (w : World) : Calls Tryz.prog 56 #[PV 1 n d r l b g k, .int .i64 a] w fun e w' => e = .returned (Pm.give ⟨1, n, d, r, l, b, g, k⟩ a).V ∧ Below w.heap.size w w' := by
  have HB0 : Hid (Below w.heap.size w ((w.alloc (PB 1 n d r l b g k)).alloc (PB 0 0 0 0 0 0 0 0))) := bel_on (Nat.le_refl _) (alP _ _) (alP _ _)
  have HP0 : Hid (((w.alloc (PB 1 n d r l b g k)).alloc (PB 0 0 0 0 0 0 0 0)).heap[w.heap.size]? = some (PB 1 n d r l b g k)) := row_on (heap_new w _) (alP _ _)
  have HZ0 : Hid (((w.alloc (PB 1 n d r l b g k)).alloc (PB 0 0 0 0 0 0 0 0)).heap[w.heap.size + 1]? = some (PB 0 0 0 0 0 0 0 0)) := al_at (w.alloc (PB 1 n d r l b g k)) _ (by simp)
  have p0 := box8_cells HP0.out
  go_enter Tryz.func56, Tryz.ntmps56
  go_wp2_with fail
  refine Calls.mono (KP.out _) ?_
  rintro e w1 ⟨rfl, hb1⟩
  have HB1 := bq HB0 hb1
  have HP1 : Hid (w1.heap[w.heap.size]? = some (PB 1 n d r l b g k)) := row_on HP0.out hb1
  have HZ1 : Hid (w1.heap[w.heap.size + 1]? = some (PB 0 0 0 0 0 0 0 0)) := row_on HZ0.out hb1
  have p1 := box8_cells HP1.out
  clear hb1 HB0 HP0 HZ0 p0
  go_wp2_with fail
  refine Calls.mono (KW.out _) ?_
  rintro e w2 ⟨rfl, hb2⟩
  have HB2 := bq HB1 hb2
  have HP2 : Hid (w2.heap[w.heap.size]? = some (PB 1 n d r l b g k)) := row_on HP1.out hb2
  have HZ2 : Hid (w2.heap[w.heap.size + 1]? = some (PB 0 0 0 0 0 0 0 0)) := row_on HZ1.out hb2
  have p2 := box8_cells HP2.out
  have hl2 := row_lt HZ2.out
  clear hb2 HB1 HP1 HZ1 p1 KP KW
  go_wp2_with fail
  refine (lessS a W m hm.out _).mono ?_
  rintro e wz ⟨rfl, hwz⟩
  subst hwz
  have HN2 : Hid ((wz.alloc (PB 0 0 0 0 0 0 0 0)).heap[wz.heap.size]? = some (PB 0 0 0 0 0 0 0 0)) := heap_new wz _
  have HPa : Hid ((wz.alloc (PB 0 0 0 0 0 0 0 0)).heap[w.heap.size]? = some (PB 1 n d r l b g k)) := row_on HP2.out (alP _ _)
  have HZa : Hid ((wz.alloc (PB 0 0 0 0 0 0 0 0)).heap[w.heap.size + 1]? = some (PB 0 0 0 0 0 0 0 0)) := row_on HZ2.out (alP _ _)
  have HBa : Hid (Below w.heap.size w (wz.alloc (PB 0 0 0 0 0 0 0 0))) := bel_on (Nat.le_refl _) HB2.out (alP _ _)
  go_upto_region 6 with fail
  go_wp2_with (refine listStoreP rfl rfl _ _ _ rfl rfl wz.heap.size (1) (n) (d) (r) (l) (b) (g) (k) rfl rfl HN2.out ?_)
  intro w3 hr3 ho3 hs3 hB3
  obtain ⟨Q, hQ⟩ : ∃ Q, wz.heap.size = Q := ⟨_, rfl⟩
  rw [hQ] at hr3 ho3 hB3 hl2
  have hl : w.heap.size ≤ Q := by omega
  have HB3 : Hid (Below w.heap.size w w3) := hB3 _ _ hl HBa.out
  have HN3 : Hid (w3.heap[Q]? = some (PB 1 n d r l b g k)) := hr3
  have HP3 : Hid (w3.heap[w.heap.size]? = some (PB 1 n d r l b g k)) := (ho3 _ (by omega)).trans HPa.out
  have HZ3 : Hid (w3.heap[w.heap.size + 1]? = some (PB 0 0 0 0 0 0 0 0)) := (ho3 _ (by omega)).trans HZa.out
  have p3 := box8_cells HP3.out
  have n3 := box8_cells HN3.out
  rw [hQ]
  clear hr3 ho3 hs3 hB3 HN2 HPa HZa HBa HP2 HZ2 HB2 p2 hQ
  go_wp2_with fail
  refine Calls.mono (KR.out _) ?_
  rintro e w4 ⟨rfl, hb4⟩
  have HB4 := bq HB3 hb4
  have HN4 : Hid (w4.heap[Q]? = some (PB 1 n d r l b g k)) := row_on HN3.out hb4
  have HP4 : Hid (w4.heap[w.heap.size]? = some (PB 1 n d r l b g k)) := row_on HP3.out hb4
  have HZ4 : Hid (w4.heap[w.heap.size + 1]? = some (PB 0 0 0 0 0 0 0 0)) := row_on HZ3.out hb4
  have p4 := box8_cells HP4.out
  have n4 := box8_cells HN4.out
  clear hb4 HB3 HN3 HP3 HZ3 p3 n3 KR
  go_wp2_with (refine listStoreR rfl rfl _ _ _ rfl rfl Q (n) (d) (r') rfl rfl HN4.out ?_)
  intro w5 hr ho hs hB
  have HB5 : Hid (Below w.heap.size w w5) := hB _ _ hl HB4.out
  have HN5 : Hid (w5.heap[Q]? = some (PB 1 n d r' l b g k)) := hr
  have HP5 : Hid (w5.heap[w.heap.size]? = some (PB 1 n d r l b g k)) := (ho _ (by omega)).trans HP4.out
  have HZ5 : Hid (w5.heap[w.heap.size + 1]? = some (PB 0 0 0 0 0 0 0 0)) := (ho _ (by omega)).trans HZ4.out
  have p5 := box8_cells HP5.out
  have n5 := box8_cells HN5.out
  clear hr ho hs hB HB4 HN4 HP4 HZ4 p4 n4
  go_wp2_with fail
  refine (lessS b 3 q hq.out _).mono ?_
  rintro e wz ⟨rfl, hwz⟩
  subst hwz
  go_wp2_with fail
  refine (lessS m q c hc.out _).mono ?_
  rintro e wz ⟨rfl, hwz⟩
  subst hwz
  go_upto_region 9 with fail
  go_wp2_with (refine listStoreC rfl rfl _ _ _ rfl rfl Q 5 (B) rfl rfl HN5.out (by simp) ?_)
  intro w6 hr ho hs hB
  have HB6 : Hid (Below w.heap.size w w6) := hB _ _ hl HB5.out
  have HN6 : Hid (w6.heap[Q]? = some (PB 1 n d r' l B g k)) := hr
  have HP6 : Hid (w6.heap[w.heap.size]? = some (PB 1 n d r l b g k)) := (ho _ (by omega)).trans HP5.out
  have HZ6 : Hid (w6.heap[w.heap.size + 1]? = some (PB 0 0 0 0 0 0 0 0)) := (ho _ (by omega)).trans HZ5.out
  have p6 := box8_cells HP6.out
  have n6 := box8_cells HN6.out
  clear hr ho hs hB HB5 HN5 HP5 HZ5 p5 n5
  go_upto_region 11 with fail
  go_wp2_with (refine listStoreC rfl rfl _ _ _ rfl rfl Q 4 (0) rfl rfl HN6.out (by simp) ?_)
  intro w7 hr ho hs hB
  have HB7 : Hid (Below w.heap.size w w7) := hB _ _ hl HB6.out
  have HN7 : Hid (w7.heap[Q]? = some (PB 1 n d r' 0 B g k)) := hr
  have HP7 : Hid (w7.heap[w.heap.size]? = some (PB 1 n d r l b g k)) := (ho _ (by omega)).trans HP6.out
  have HZ7 : Hid (w7.heap[w.heap.size + 1]? = some (PB 0 0 0 0 0 0 0 0)) := (ho _ (by omega)).trans HZ6.out
  have p7 := box8_cells HP7.out
  have n7 := box8_cells HN7.out
  clear hr ho hs hB HB6 HN6 HP6 HZ6 p6 n6
  go_wp2_with fail
  refine (lessS G 1000000000000 g2 hg2.out _).mono ?_
  rintro e wz ⟨rfl, hwz⟩
  subst hwz
  go_wp2_with (refine listStoreC rfl rfl _ _ _ rfl rfl Q 6 (g2) rfl rfl HN7.out (by simp) ?_)
  intro w8 hr ho hs hB
  have HB8 : Hid (Below w.heap.size w w8) := hB _ _ hl HB7.out
  have HN8 : Hid (w8.heap[Q]? = some (PB 1 n d r' 0 B g2 k)) := hr
  have HP8 : Hid (w8.heap[w.heap.size]? = some (PB 1 n d r l b g k)) := (ho _ (by omega)).trans HP7.out
  have HZ8 : Hid (w8.heap[w.heap.size + 1]? = some (PB 0 0 0 0 0 0 0 0)) := (ho _ (by omega)).trans HZ7.out
  have p8 := box8_cells HP8.out
  have n8 := box8_cells HN8.out
  clear hr ho hs hB HB7 HN7 HP7 HZ7 p7 n7
  go_upto_region 14 with fail
  go_wp2_with (refine listStoreC rfl rfl _ _ _ rfl rfl Q 0 (2) rfl rfl HN8.out (by simp) ?_)
  intro w9 hr ho hs hB
  have HB9 : Hid (Below w.heap.size w w9) := hB _ _ hl HB8.out
  have HN9 : Hid (w9.heap[Q]? = some (PB 2 n d r' 0 B g2 k)) := hr
  have HP9 : Hid (w9.heap[w.heap.size]? = some (PB 1 n d r l b g k)) := (ho _ (by omega)).trans HP8.out
  have HZ9 : Hid (w9.heap[w.heap.size + 1]? = some (PB 0 0 0 0 0 0 0 0)) := (ho _ (by omega)).trans HZ8.out
  have p9 := box8_cells HP9.out
  have n9 := box8_cells HN9.out
  clear hr ho hs hB HB8 HN8 HP8 HZ8 p8 n8
  go_upto_region 15 with fail
  go_wp2_with (refine listStoreR rfl rfl _ _ _ rfl rfl Q (1) (50) (0) rfl rfl HN9.out ?_)
  intro w10 hr ho hs hB
  have HB10 : Hid (Below w.heap.size w w10) := hB _ _ hl HB9.out
  have HN10 : Hid (w10.heap[Q]? = some (PB 2 1 50 0 0 B g2 k)) := hr
  have HP10 : Hid (w10.heap[w.heap.size]? = some (PB 1 n d r l b g k)) := (ho _ (by omega)).trans HP9.out
  have HZ10 : Hid (w10.heap[w.heap.size + 1]? = some (PB 0 0 0 0 0 0 0 0)) := (ho _ (by omega)).trans HZ9.out
  have p10 := box8_cells HP10.out
  have n10 := box8_cells HN10.out
  clear hr ho hs hB HB9 HN9 HP9 HZ9 p9 n9
  go_upto_region 16 with fail
  go_wp2_with (refine listStoreP rfl rfl _ _ _ rfl rfl (w.heap.size + 1) (2) (1) (50) (0) (0) (B) (g2) (k) rfl rfl HZ10.out ?_)
  intro w99 hr9 ho9 hs9 hB9
  have HF : Hid (Below w.heap.size w w99) := hB9 _ _ (Nat.le_succ _) HB10.out
  obtain ⟨⟨q0, q1, q2, q3, q4, q5, q6, q7⟩, _⟩ := box8_cells hr9
  clear ho9 hs9 hB9 hr9
  go_wp2
  refine bodyPost_ret (v := PV 2 1 50 0 0 B g2 k) (by simp only [results, Tryz.results56]; simp [go_sem, q0, q1, q2, q3, q4, q5, q6, q7]) rfl ⟨by rw [HT.out]; rfl, HF.out⟩
end Go.Proofs.YtfhhnelffldggaaGreatDoor
