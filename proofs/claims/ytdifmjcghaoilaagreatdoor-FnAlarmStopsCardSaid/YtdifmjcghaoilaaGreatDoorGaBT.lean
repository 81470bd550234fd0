/-
  The mathematics of a device: orders one behind the other, a tick, ticks.
-/
import Derived.Test.YtdifmjcghaoilaaGreatDoorGaBL
import Derived.Test.YtdifmjcghaoilaaGreatDoorGaBO
import Derived.Test.YtdifmjcghaoilaaGreatDoorGaBP
import Derived.Test.YtdifmjcghaoilaaGreatDoorGaBS
namespace Go.Proofs.YtdifmjcghaoilaaGreatDoor
open Go.RowKit Go.PlainAid
set_option linter.unusedVariables false
set_option linter.unusedSimpArgs false

/-- what orders leave: the pump, how many were refused, whether one said that it is seen -/
structure Tks where
  p : Pm
  r : Int
  s : Bool
def stepK (x : Tks) (o : Od4) : Tks := if o.1 = 5 then ⟨x.p, x.r, true⟩ else ⟨(x.p.take o.1 o.2.1 o.2.2.1 o.2.2.2).1, if (x.p.take o.1 o.2.1 o.2.2.1 o.2.2.2).2 = true then x.r else x.r + 1, x.s⟩
def takeL (x : Tks) (l : List Od4) : Tks := l.foldl stepK x
theorem takeL_nil (x : Tks) : takeL x [] = x := rfl
theorem takeL_cons (x : Tks) (o : Od4) (l : List Od4) : takeL x (o :: l) = takeL (stepK x o) l := rfl
theorem takeL_app (x : Tks) (l k : List Od4) : takeL x (l ++ k) = takeL (takeL x l) k := List.foldl_append ..
theorem takeL_take {l : List Od4} {j : Nat} (h : j < l.length) (x : Tks) : takeL x (l.take (j + 1)) = stepK (takeL x (l.take j)) l[j] := by
  rw [← List.take_append_getElem h, takeL_app]
  rfl
theorem stepK_seen {x : Tks} {o : Od4} (h : o.1 = 5) : stepK x o = ⟨x.p, x.r, true⟩ := if_pos h
theorem stepK_take {x : Tks} {o : Od4} (h : ¬ o.1 = 5) : stepK x o = ⟨(x.p.take o.1 o.2.1 o.2.2.1 o.2.2.2).1, if (x.p.take o.1 o.2.1 o.2.2.1 o.2.2.2).2 = true then x.r else x.r + 1, x.s⟩ := if_neg h
theorem take_g (p : Pm) (k n d v : Int) : (p.take k n d v).1.g = p.g := by
  unfold Pm.take
  repeat' split
  all_goals rfl
theorem stepK_ok {x : Tks} (h : x.p.ok) (o : Od4) : (stepK x o).p.ok ∧ (stepK x o).p.g = x.p.g ∧ x.r ≤ (stepK x o).r ∧ (stepK x o).r ≤ x.r + 1 := by
  by_cases h5 : o.1 = 5
  · rw [stepK_seen h5]
    exact ⟨h, rfl, Int.le_refl _, by show x.r ≤ x.r + 1; omega⟩
  · rw [stepK_take h5]
    refine ⟨take_ok h _ _ _ _, take_g _ _ _ _ _, ?_, ?_⟩
    all_goals dsimp only; split <;> omega
theorem takeL_ok : ∀ (l : List Od4) {x : Tks}, x.p.ok → (takeL x l).p.ok ∧ (takeL x l).p.g = x.p.g ∧ x.r ≤ (takeL x l).r ∧ (takeL x l).r ≤ x.r + l.length
  | [], x, h => ⟨h, rfl, Int.le_refl _, by simp [takeL]⟩
  | o :: l, x, h => by
    obtain ⟨h1, h2, h3, h4⟩ := stepK_ok h o
    obtain ⟨g1, g2, g3, g4⟩ := takeL_ok l h1
    rw [takeL_cons]
    refine ⟨g1, g2.trans h2, by omega, ?_⟩
    rw [List.length_cons]
    omega
/-- a device -/
structure Dv where
  p : Pm
  l : List Int
  al : Int
  m : Mn
  t : List Tk3
  rf : Int
def newD : Dv := ⟨newP, [], 0, newM, [], 0⟩
/-- what comes in a tick: bits, keys, the link's orders, how many of the link are refused -/
structure Ic where
  b : Int
  ks : List UInt8
  lo : List Od4
  lr : Int
/-- what the orders of a tick leave -/
def ordsD (D : Dv) (i : Ic) : Tks := takeL ⟨D.p, D.rf + i.lr, false⟩ ((allM D.m i.ks).2 ++ i.lo)
def alD (D : Dv) (i : Ic) : Int := G.feelA true D.al i.b (ordsD D i).s
def numD (D : Dv) (i : Ic) : Int := if alD D i = 0 then G.letG D.l (ordsD D i).p.wants else 0
def pmpD (D : Dv) (i : Ic) : Pm := if alD D i = 0 then (ordsD D i).p.give (numD D i) else (ordsD D i).p
def tickD (D : Dv) (i : Ic) : Dv := ⟨pmpD D i, G.passL true D.l (numD D i), alD D i, (allM D.m i.ks).1, D.t ++ [(numD D i, alD D i, (pmpD D i).s)], (ordsD D i).r⟩
def runD (D : Dv) (l : List Ic) : Dv := l.foldl tickD D
theorem runD_nil (D : Dv) : runD D [] = D := rfl
theorem runD_cons (D : Dv) (i : Ic) (l : List Ic) : runD D (i :: l) = runD (tickD D i) l := rfl
theorem runD_app (D : Dv) (l k : List Ic) : runD D (l ++ k) = runD (runD D l) k := List.foldl_append ..
theorem runD_take {l : List Ic} {j : Nat} (h : j < l.length) (D : Dv) : runD D (l.take (j + 1)) = tickD (runD D (l.take j)) l[j] := by
  rw [← List.take_append_getElem h, runD_app]
  rfl
/-- what may come in -/
def Ic.ok (i : Ic) : Prop := (0 ≤ i.b ∧ i.b ≤ 15) ∧ i.ks.length ≤ 20 ∧ (i.lo = [] ∨ ∃ o, i.lo = [o]) ∧ (0 ≤ i.lr ∧ i.lr ≤ 1) ∧ (∀ o ∈ i.lo, OrdR o.1 o.2.1 o.2.2.1 o.2.2.2)
/-- a device that ticks lead to -/
structure Dv.ok (D : Dv) : Prop where
  p : D.p.ok
  g : G.GdR D.l D.al
  m : GdM D.m
  r : 0 ≤ D.rf
theorem newD_ok : newD.ok := ⟨new_ok, G.gd_new, GdM.new, Int.le_refl _⟩
theorem lo_len {i : Ic} (h : i.ok) : i.lo.length ≤ 1 := by
  rcases h.2.2.1 with e | ⟨o, e⟩ <;> rw [e] <;> simp
theorem ords_ok {D : Dv} (h : D.ok) {i : Ic} (hi : i.ok) : (ordsD D i).p.ok ∧ (ordsD D i).p.g = D.p.g ∧ D.rf ≤ (ordsD D i).r ∧ (ordsD D i).r ≤ D.rf + 22 := by
  obtain ⟨h1, h2, h3, h4⟩ := takeL_ok ((allM D.m i.ks).2 ++ i.lo) (x := ⟨D.p, D.rf + i.lr, false⟩) h.p
  have e1 := allM_len i.ks D.m
  have e2 := lo_len hi
  have e3 := hi.2.1
  have e4 := hi.2.2.2.1
  rw [List.length_append] at h4
  refine ⟨h1, h2, ?_, ?_⟩
  · have : (⟨D.p, D.rf + i.lr, false⟩ : Tks).r ≤ (ordsD D i).r := h3
    dsimp only at this
    omega
  · have : (ordsD D i).r ≤ (⟨D.p, D.rf + i.lr, false⟩ : Tks).r + (((allM D.m i.ks).2.length + i.lo.length : Nat) : Int) := h4
    dsimp only at this
    omega
theorem tick_ok {D : Dv} (h : D.ok) {i : Ic} (hi : i.ok) : (tickD D i).ok ∧ (tickD D i).t.length = D.t.length + 1 ∧ (tickD D i).rf ≤ D.rf + 22 := by
  obtain ⟨h1, h2, h3, h4⟩ := ords_ok h hi
  refine ⟨⟨?_, G.passL_ok (G.feel_ok h.g true i.b _) true _, GdM.all i.ks h.m, ?_⟩, ?_, h4⟩
  · show (pmpD D i).ok
    unfold pmpD
    split
    · exact give_ok h1 _
    · exact h1
  · show 0 ≤ (ordsD D i).r
    have := h.r
    omega
  · simp [tickD]
theorem run_okD : ∀ (l : List Ic) {D : Dv}, D.ok → (∀ i ∈ l, i.ok) → (runD D l).ok ∧ (runD D l).t.length = D.t.length + l.length ∧ (runD D l).rf ≤ D.rf + 22 * l.length
  | [], D, h, _ => ⟨h, rfl, by simp [runD]⟩
  | i :: l, D, h, hl => by
    obtain ⟨h1, h2, h3⟩ := tick_ok h (hl i (List.mem_cons_self ..))
    obtain ⟨g1, g2, g3⟩ := run_okD l h1 (fun j hj => hl j (List.mem_cons_of_mem _ hj))
    rw [runD_cons]
    refine ⟨g1, ?_, ?_⟩
    · rw [g2, h2, List.length_cons]; omega
    · rw [List.length_cons]
      push_cast
      omega
theorem num_bd {D : Dv} (h : D.ok) (i : Ic) : 0 ≤ numD D i ∧ numD D i ≤ 30 ∧ numD D i ≤ (ordsD D i).p.wants := by
  have h1 := wants_bd (ordsD D i).p
  have h2 := G.letG_bd h.g (ordsD D i).p.wants
  unfold numD
  split
  · refine ⟨h2.1, h2.2.2, ?_⟩
    have hs := G.sumN_bd h.g.2.2.1
    unfold G.letG
    omega
  · omega
/-- what a tick gave is what was given -/
theorem tick_given {D : Dv} (h : D.ok) {i : Ic} (hi : i.ok) (hg : D.p.g ≤ 999999999990) : (tickD D i).p.g = D.p.g + numD D i := by
  obtain ⟨h1, h2, _, _⟩ := ords_ok h hi
  have hn := num_bd h i
  show (pmpD D i).g = _
  unfold pmpD
  by_cases ha : alD D i = 0
  · rw [if_pos ha]
    unfold Pm.give
    by_cases hr : (ordsD D i).p.okB = true ∧ ((ordsD D i).p.s = 1 ∨ (ordsD D i).p.s = 2)
    · rw [if_pos hr, giveR_g, h2]
      have hw := wants_bd (ordsD D i).p
      omega
    · rw [if_neg hr, h2]
      have : (ordsD D i).p.wants = 0 := by unfold Pm.wants; rw [if_neg hr]
      omega
  · rw [if_neg ha, h2]
    unfold numD
    rw [if_neg ha]
    omega
def sumT : List Tk3 → Int
  | [] => 0
  | x :: l => x.1 + sumT l
theorem sumT_app : ∀ (x y : List Tk3), sumT (x ++ y) = sumT x + sumT y
  | [], y => by simp [sumT]
  | a :: x, y => by simp [sumT, sumT_app x y]; omega
/-- all that was given is the sum of the ticks -/
theorem run_given : ∀ (l : List Ic) {D : Dv}, D.ok → (∀ i ∈ l, i.ok) → D.p.g + 30 * (l.length : Int) ≤ 999999999990 → (runD D l).p.g - sumT (runD D l).t = D.p.g - sumT D.t ∧ (runD D l).p.g ≤ D.p.g + 30 * l.length
  | [], D, h, _, _ => ⟨rfl, by simp [runD]⟩
  | i :: l, D, h, hl, hg => by
    have hi := hl i (List.mem_cons_self ..)
    have e := tick_given h hi (by rw [List.length_cons] at hg; push_cast at hg; omega)
    have hn := num_bd h i
    obtain ⟨h1, h2, h3⟩ := tick_ok h hi
    obtain ⟨g1, g2⟩ := run_given l h1 (fun j hj => hl j (List.mem_cons_of_mem _ hj)) (by rw [List.length_cons] at hg; push_cast at hg; omega)
    rw [runD_cons]
    have e2 : sumT (tickD D i).t = sumT D.t + numD D i := by
      show sumT (D.t ++ [_]) = _
      rw [sumT_app]
      simp [sumT]
    refine ⟨by omega, ?_⟩
    rw [List.length_cons]
    push_cast
    omega
/-- the link's bytes and what they tell -/
def LkD (L : ByteArray) (lo : List Od4) (lr : Int) : Prop := (L.size = 0 ∧ lo = [] ∧ lr = 0) ∨ (L.size ≠ 0 ∧ ∃ k n d v b, RdOr L k n d v b ∧ ((b = true ∧ lo = [(k, n, d, v)] ∧ lr = 0) ∨ (b = false ∧ lo = [] ∧ lr = 1)))
theorem LkD.uni {L : ByteArray} {lo lo' : List Od4} {lr lr' : Int} (h : LkD L lo lr) (h' : LkD L lo' lr') : lo = lo' ∧ lr = lr' := by
  rcases h with ⟨h1, rfl, rfl⟩ | ⟨h1, k, n, d, v, b, h2, h3⟩ <;> rcases h' with ⟨g1, rfl, rfl⟩ | ⟨g1, k', n', d', v', b', g2, g3⟩
  · exact ⟨rfl, rfl⟩
  · exact absurd h1 g1
  · exact absurd g1 h1
  · obtain ⟨rfl, rfl, rfl, rfl, rfl⟩ := h2.uni g2
    rcases h3 with ⟨rfl, rfl, rfl⟩ | ⟨rfl, rfl, rfl⟩ <;> rcases g3 with ⟨e, rfl, rfl⟩ | ⟨e, rfl, rfl⟩
    · exact ⟨rfl, rfl⟩
    · cases e
    · cases e
    · exact ⟨rfl, rfl⟩
theorem LkD.ex (L : ByteArray) : ∃ lo lr, LkD L lo lr := by
  by_cases h : L.size = 0
  · exact ⟨[], 0, .inl ⟨h, rfl, rfl⟩⟩
  · by_cases h2 : ∃ k n d v, OrdR k n d v ∧ ordT k n d v = L
    · obtain ⟨k, n, d, v, h3, h4⟩ := h2
      exact ⟨[(k, n, d, v)], 0, .inr ⟨h, k, n, d, v, true, .inl ⟨h3, h4, rfl⟩, .inl ⟨rfl, rfl, rfl⟩⟩⟩
    · exact ⟨[], 1, .inr ⟨h, 0, 0, 0, 0, false, .inr ⟨fun k n d v h3 h4 => h2 ⟨k, n, d, v, h3, h4⟩, rfl, rfl, rfl, rfl, rfl⟩, .inr ⟨rfl, rfl, rfl⟩⟩⟩
theorem LkD.ord {L : ByteArray} {lo : List Od4} {lr : Int} (h : LkD L lo lr) : (lo = [] ∨ ∃ o, lo = [o]) ∧ (0 ≤ lr ∧ lr ≤ 1) ∧ (∀ o ∈ lo, OrdR o.1 o.2.1 o.2.2.1 o.2.2.2) := by
  rcases h with ⟨h1, rfl, rfl⟩ | ⟨h1, k, n, d, v, b, h2, h3⟩
  · exact ⟨.inl rfl, by decide, fun o h => by cases h⟩
  · rcases h3 with ⟨rfl, rfl, rfl⟩ | ⟨rfl, rfl, rfl⟩
    · refine ⟨.inr ⟨_, rfl⟩, by decide, fun o h => ?_⟩
      rw [List.mem_singleton.1 h]
      rcases h2 with ⟨h3, _⟩ | ⟨_, e, _⟩
      · exact h3
      · cases e
    · exact ⟨.inl rfl, by decide, fun o h => by cases h⟩
/-- an input as it lies in memory: bits, keys, link; and what it tells -/
structure Inp where
  i : Ic
  K : ByteArray
  L : ByteArray
def Inp.ok (x : Inp) : Prop := (⟨x.i.ks.toArray⟩ : ByteArray) = x.K ∧ LkD x.L x.i.lo x.i.lr ∧ (0 ≤ x.i.b ∧ x.i.b ≤ 15) ∧ x.K.size ≤ 20 ∧ x.L.size ≤ 40
theorem Inp.ok.ic {x : Inp} (h : x.ok) : x.i.ok := ⟨h.2.2.1, by have h1 := txt_size h.1; have h2 := h.2.2.2.1; omega, h.2.1.ord⟩
def Inp.V (x : Inp) : Value := .agg #[.int .i64 x.i.b, .string x.K, .string x.L]
end Go.Proofs.YtdifmjcghaoilaaGreatDoor

namespace Go.Proofs.YtdifmjcghaoilaaGreatDoor
open Go.RowKit Go.PlainAid
set_option linter.unusedVariables false
set_option linter.unusedSimpArgs false

theorem pm_eqV {p q : Pm} (h0 : p.s = q.s) (h1 : p.n = q.n) (h2 : p.d = q.d) (h3 : p.r = q.r) (h4 : p.l = q.l) (h5 : p.b = q.b) (h6 : p.g = q.g) (h7 : p.k = q.k) : p = q := by
  cases p
  cases q
  simp_all
def VolR (n d v : Int) : Prop := (1 ≤ d ∧ d ≤ 9) ∧ (1 ≤ n ∧ n ≤ 3 * d) ∧ (1 ≤ v ∧ v ≤ 60)
/-- the pump behind q pulses, rest r, of v -/
def volP (n d v q r : Int) : Pm := if q < v then ⟨1, n, d, r, v - q, 0, q, 0⟩ else ⟨2, 1, 50, 0, 0, 0, v, 0⟩
theorem vol_take {n d v : Int} (h : VolR n d v) : newP.take 1 n d v = (⟨1, n, d, 0, v, 0, 0, 0⟩, true) := by
  unfold VolR at h
  unfold Pm.take
  rw [if_pos ⟨ok_yes new_ok, or_yes (by unfold OrdR; omega)⟩]
  simp [newP]
theorem vol_ok {n d v q r : Int} (h : VolR n d v) (hq : 0 ≤ q) (hqv : q < v) (hr : 0 ≤ r ∧ r < d) : Pm.ok ⟨1, n, d, r, v - q, 0, q, 0⟩ := by
  unfold VolR at h
  unfold Pm.ok ratR
  dsimp only
  omega
theorem vol_wants {n d v q r z : Int} (h : VolR n d v) (hq : 0 ≤ q) (hqv : q < v) (hr : 0 ≤ r ∧ r < d) (hz : (r + n) / d = z) : Pm.wants ⟨1, n, d, r, v - q, 0, q, 0⟩ = min z (v - q) := by
  rw [wants_run (vol_ok h hq hqv hr) (.inl rfl)]
  unfold Pm.base Pm.rate
  simp [hz]
  omega
theorem vol_step {n d v q r z s : Int} (h : VolR n d v) (hq : 0 ≤ q) (hqv : q < v) (hr : 0 ≤ r ∧ r < d) (hz : (r + n) / d = z) (hs : (r + n) % d = s) (h0 : 0 ≤ z) :
    Pm.give ⟨1, n, d, r, v - q, 0, q, 0⟩ (min z (v - q)) = volP n d v (q + z) s := by
  have hw := vol_wants h hq hqv hr hz
  unfold VolR at h
  unfold Pm.give
  rw [if_pos ⟨ok_yes (vol_ok h hq hqv hr), .inl rfl⟩]
  unfold Pm.giveR
  rw [hw]
  dsimp only
  obtain ⟨m, hm⟩ : ∃ m, max (min (min z (v - q)) (min z (v - q))) 0 = m := ⟨_, rfl⟩
  rw [hm, hs]
  have hm' : m = min z (v - q) := by omega
  have hc : min m (min (0 : Int) 3) = 0 := by omega
  rw [hc]
  unfold volP
  by_cases hl : q + z < v
  · rw [if_pos hl, if_neg (by simp; omega)]
    refine pm_eqV rfl rfl rfl rfl ?_ ?_ ?_ rfl <;> simp <;> omega
  · rw [if_neg hl, if_pos (by simp; omega)]
    refine pm_eqV rfl rfl rfl rfl ?_ ?_ ?_ rfl <;> simp <;> omega
/-- how many ticks it takes -/
theorem vol_ticks {n d v : Int} (h : VolR n d v) : ∃ m : Nat, v * d ≤ (m : Int) * n ∧ ((m : Int) - 1) * n < v * d ∧ 1 ≤ m ∧ m ≤ 540 := by
  unfold VolR at h
  obtain ⟨X, hX⟩ : ∃ X, v * d = X := ⟨_, rfl⟩
  have hX1 : 1 ≤ X := by rw [← hX]; have := Int.mul_le_mul (a := 1) (b := 1) (c := v) (d := d) (by omega) (by omega) (by omega) (by omega); omega
  have hX2 : X ≤ 540 := by rw [← hX]; have := Int.mul_le_mul (a := v) (b := d) (c := 60) (d := 9) (by omega) (by omega) (by omega) (by omega); omega
  obtain ⟨y, hy⟩ : ∃ y, (X + n - 1) / n = y := ⟨_, rfl⟩
  obtain ⟨r, hr⟩ : ∃ r, (X + n - 1) % n = r := ⟨_, rfl⟩
  have h1 := Int.emod_add_mul_ediv (X + n - 1) n
  have h2 := Int.emod_nonneg (X + n - 1) (show n ≠ 0 by omega)
  have h3 := Int.emod_lt_of_pos (X + n - 1) (show 0 < n by omega)
  rw [hy, hr] at h1
  rw [hr] at h2 h3
  have hyn : n * y = y * n := Int.mul_comm _ _
  have e1 : (y - 1) * n = y * n - n := by rw [Int.sub_mul, Int.one_mul]
  have y0 : 1 ≤ y := by
    rcases Int.lt_or_le y 1 with hl | hl
    · have : y * n ≤ 0 * n := Int.mul_le_mul_of_nonneg_right (by omega) (by omega)
      omega
    · exact hl
  have y1 : y - 1 ≤ (y - 1) * n := by
    have := Int.mul_le_mul_of_nonneg_left (show 1 ≤ n by omega) (show 0 ≤ y - 1 by omega)
    omega
  refine ⟨y.toNat, ?_, ?_, ?_, ?_⟩
  · rw [hX, Int.toNat_of_nonneg (by omega)]
    omega
  · rw [hX, Int.toNat_of_nonneg (by omega)]
    omega
  · omega
  · omega
/-- the pulses of j ticks, ahead of the last -/
theorem vol_ahead {n d v : Int} (h : VolR n d v) {m j : Nat} (hm : ((m : Int) - 1) * n < v * d) (hj : j < m) : ((j : Int) * n) / d < v := by
  unfold VolR at h
  have h1 : (j : Int) * n ≤ ((m : Int) - 1) * n := Int.mul_le_mul_of_nonneg_right (by omega) (by omega)
  exact Int.ediv_lt_of_lt_mul (by omega) (by omega)
theorem vol_last {n d v : Int} (h : VolR n d v) {m : Nat} (hm : v * d ≤ (m : Int) * n) : ¬ ((m : Int) * n) / d < v := by
  unfold VolR at h
  have := Int.le_ediv_of_mul_le (show 0 < d by omega) hm
  omega
theorem vol_next {n d : Int} (hd : 1 ≤ d) (j : Int) : ((j + 1) * n) / d = (j * n) / d + ((j * n) % d + n) / d ∧ ((j + 1) * n) % d = ((j * n) % d + n) % d := by
  have e : (j + 1) * n = d * ((j * n) / d) + ((j * n) % d + n) := by
    have := Int.emod_add_mul_ediv (j * n) d
    rw [Int.add_mul, Int.one_mul]
    omega
  constructor
  · rw [e, Int.mul_add_ediv_left _ _ (show d ≠ 0 by omega)]
  · rw [e, Int.mul_add_emod_self_left]
end Go.Proofs.YtdifmjcghaoilaaGreatDoor

namespace Go.Proofs.YtdifmjcghaoilaaGreatDoor
open Go.RowKit Go.PlainAid
set_option linter.unusedVariables false
set_option linter.unusedSimpArgs false

def AllT (l : List Int) : Prop := ∀ x ∈ l, 0 ≤ x ∧ x ≤ 3
theorem allT_sum : ∀ {l : List Int}, AllT l → 0 ≤ G.sumN l ∧ G.sumN l ≤ 3 * l.length
  | [], _ => by simp [G.sumN]
  | x :: l, h => by
    have h0 := h x (List.mem_cons_self ..)
    have h1 := allT_sum (l := l) (fun y hy => h y (List.mem_cons_of_mem _ hy))
    unfold G.sumN
    rw [List.length_cons]
    omega
theorem letG_all {l : List Int} (h : AllT l) (hl : l.length ≤ 9) {x : Int} (hx : 0 ≤ x ∧ x ≤ 3) : G.letG l x = x := by
  have := allT_sum h
  unfold G.letG
  omega
theorem allT_pass {l : List Int} (h : AllT l) (hl : l.length ≤ 9) {x : Int} (hx : 0 ≤ x ∧ x ≤ 3) : AllT (G.passL true l x) := by
  unfold G.passL
  rw [if_pos rfl, letG_all h hl hx]
  intro y hy
  rcases List.mem_cons.1 (List.mem_of_mem_take hy) with rfl | hy
  · exact hx
  · exact h y hy
def noI : Ic := ⟨0, [], [], 0⟩
theorem noI_ok : noI.ok := ⟨by decide, by decide, .inl rfl, by decide, fun o h => by cases h⟩
theorem no_ords (D : Dv) : ordsD D noI = ⟨D.p, D.rf, false⟩ := by
  unfold ordsD noI
  simp [allM, takeL]
theorem or_zero : G.orI 0 0 = 0 := by decide
theorem or_left {b : Int} (h : 0 ≤ b ∧ b ≤ 15) : G.orI 0 b = b ∧ G.orI b 0 = b := by
  have : b = 0 ∨ b = 1 ∨ b = 2 ∨ b = 3 ∨ b = 4 ∨ b = 5 ∨ b = 6 ∨ b = 7 ∨ b = 8 ∨ b = 9 ∨ b = 10 ∨ b = 11 ∨ b = 12 ∨ b = 13 ∨ b = 14 ∨ b = 15 := by omega
  rcases this with rfl | rfl | rfl | rfl | rfl | rfl | rfl | rfl | rfl | rfl | rfl | rfl | rfl | rfl | rfl | rfl <;> decide
theorem feel_or {al b : Int} (hb : 0 ≤ b ∧ b ≤ 15) : G.feelA true al b false = G.orI al b := by
  unfold G.feelA
  rw [if_pos ⟨rfl, hb⟩, if_neg (by decide)]
theorem feel_seen {al b : Int} (hb : 0 ≤ b ∧ b ≤ 15) : G.feelA true al b true = b := by
  unfold G.feelA
  rw [if_pos ⟨rfl, hb⟩, if_pos rfl]
/-- a tick without an alarm, of a pump that wants three at most -/
theorem tick_calm {D : Dv} (hD : D.ok) {i : Ic} (ha : alD D i = 0) (hT : AllT D.l) {y : Int} (hy : (ordsD D i).p.wants = y) (h3 : y ≤ 3) :
    tickD D i = ⟨(ordsD D i).p.give y, G.passL true D.l y, 0, (allM D.m i.ks).1, D.t ++ [(y, 0, ((ordsD D i).p.give y).s)], (ordsD D i).r⟩ ∧ AllT (G.passL true D.l y) := by
  have hw := wants_bd (ordsD D i).p
  have hn : numD D i = y := by
    unfold numD
    rw [if_pos ha, letG_all hT hD.g.1 (by omega)]
    exact hy
  have hp : pmpD D i = (ordsD D i).p.give y := by unfold pmpD; rw [if_pos ha, hn]
  refine ⟨?_, allT_pass hT hD.g.1 (by omega)⟩
  unfold tickD
  rw [hn, ha, hp]
/-- a pump that keeps open -/
theorem kv_ok {c g : Int} (hc : 0 ≤ c ∧ c < 50) (hg : 0 ≤ g ∧ g ≤ 1000000) : Pm.ok ⟨2, 1, 50, c, 0, 0, g, 0⟩ := by
  unfold Pm.ok ratR
  dsimp only
  omega
theorem kv_wants {c g : Int} (hc : 0 ≤ c ∧ c < 50) (hg : 0 ≤ g ∧ g ≤ 1000000) : Pm.wants ⟨2, 1, 50, c, 0, 0, g, 0⟩ = (c + 1) / 50 := by
  rw [wants_run (kv_ok hc hg) (.inr rfl)]
  unfold Pm.base Pm.rate
  simp
  omega
theorem kv_give {c g : Int} (hc : 0 ≤ c ∧ c < 50) (hg : 0 ≤ g ∧ g ≤ 1000000) : Pm.give ⟨2, 1, 50, c, 0, 0, g, 0⟩ ((c + 1) / 50) = ⟨2, 1, 50, (c + 1) % 50, 0, 0, g + (c + 1) / 50, 0⟩ := by
  unfold Pm.give
  rw [if_pos ⟨ok_yes (kv_ok hc hg), .inr rfl⟩]
  unfold Pm.giveR
  rw [kv_wants hc hg]
  dsimp only
  rw [if_neg (by simp)]
  refine pm_eqV rfl rfl rfl rfl ?_ ?_ ?_ rfl <;> simp <;> omega
/-- where a device is that gives a volume, behind j ticks -/
structure GivS (n d v : Int) (j : Nat) (D : Dv) : Prop where
  ok : D.ok
  al : D.al = 0
  m : D.m = newM
  rf : D.rf = 0
  t : AllT D.l
  len : D.t.length = j
  sum : D.p.g = sumT D.t
  st : (∃ q r, D.p = ⟨1, n, d, r, v - q, 0, q, 0⟩ ∧ 0 ≤ q ∧ q < v ∧ 0 ≤ r ∧ r < d ∧ d * q + r = n * j) ∨ (∃ e c, D.p = ⟨2, 1, 50, c, 0, 0, v + e, 0⟩ ∧ 0 ≤ e ∧ 0 ≤ c ∧ c < 50 ∧ 50 * e + c + 1 ≤ j)
theorem giv_div {n d v q r : Int} (h : VolR n d v) (hr : 0 ≤ r ∧ r < d) : 0 ≤ (r + n) / d ∧ (r + n) / d ≤ 3 ∧ d * ((r + n) / d) + (r + n) % d = r + n ∧ 0 ≤ (r + n) % d ∧ (r + n) % d < d := by
  unfold VolR at h
  have h1 := Int.emod_add_mul_ediv (r + n) d
  have h2 := Int.emod_nonneg (r + n) (show d ≠ 0 by omega)
  have h3 := Int.emod_lt_of_pos (r + n) (show 0 < d by omega)
  have h4 : 0 ≤ (r + n) / d := Int.ediv_nonneg (by omega) (by omega)
  have h5 : (r + n) / d ≤ 3 := by
    have : (r + n) / d < 4 := Int.ediv_lt_of_lt_mul (by omega) (by omega)
    omega
  exact ⟨h4, h5, by omega, h2, h3⟩
/-- the pulse that a pump with a volume wants, and where it is behind it -/
theorem giv_one {n d v q r : Int} (h : VolR n d v) (hq : 0 ≤ q) (hqv : q < v) (hr : 0 ≤ r ∧ r < d) {j : Nat} (he : d * q + r = n * j) :
    ∃ y, Pm.wants ⟨1, n, d, r, v - q, 0, q, 0⟩ = y ∧ 0 ≤ y ∧ y ≤ 3 ∧ (Pm.give ⟨1, n, d, r, v - q, 0, q, 0⟩ y).g = q + y ∧ ((∃ q' r', Pm.give ⟨1, n, d, r, v - q, 0, q, 0⟩ y = ⟨1, n, d, r', v - q', 0, q', 0⟩ ∧ 0 ≤ q' ∧ q' < v ∧ 0 ≤ r' ∧ r' < d ∧ d * q' + r' = n * ((j + 1 : Nat) : Int)) ∨ (∃ e c, Pm.give ⟨1, n, d, r, v - q, 0, q, 0⟩ y = ⟨2, 1, 50, c, 0, 0, v + e, 0⟩ ∧ 0 ≤ e ∧ 0 ≤ c ∧ c < 50 ∧ 50 * e + c + 1 ≤ ((j + 1 : Nat) : Int))) := by
  obtain ⟨h1, h2, h3, h4, h5⟩ := giv_div (q := q) h hr
  have hj : n * ((j + 1 : Nat) : Int) = n * j + n := by push_cast; rw [Int.mul_add, Int.mul_one]
  obtain ⟨z, hz⟩ : ∃ z, (r + n) / d = z := ⟨_, rfl⟩
  obtain ⟨s, hs⟩ : ∃ s, (r + n) % d = s := ⟨_, rfl⟩
  have hw := vol_wants h hq hqv hr hz
  have hg := vol_step h hq hqv hr hz hs (by omega)
  rw [hz] at h1 h2 h3
  rw [hs] at h3 h4 h5
  refine ⟨min z (v - q), hw, by omega, by omega, ?_, ?_⟩
  · rw [hg]
    unfold volP
    split <;> dsimp only <;> omega
  rw [hg]
  unfold volP
  by_cases hl : q + z < v
  · rw [if_pos hl]
    refine .inl ⟨q + z, s, rfl, by omega, hl, h4, h5, ?_⟩
    rw [Int.mul_add, hj]
    omega
  · rw [if_neg hl]
    exact .inr ⟨0, 0, by simp, by omega, by omega, by omega, by omega⟩
theorem giv_step {n d v : Int} (h : VolR n d v) {j : Nat} (hj : j ≤ 1000) {D : Dv} (hD : GivS n d v j D) : GivS n d v (j + 1) (tickD D noI) := by
  have ho := no_ords D
  have ha : alD D noI = 0 := by
    unfold alD
    rw [ho, hD.al]
    show G.feelA true 0 0 false = 0
    rw [feel_or (by omega), or_zero]
  have hm : (allM D.m noI.ks).1 = newM := hD.m
  have hk := tick_ok hD.ok noI_ok
  have key : ∀ y, D.p.wants = y → 0 ≤ y → y ≤ 3 → (D.p.give y).g = D.p.g + y → ((∃ q r, D.p.give y = ⟨1, n, d, r, v - q, 0, q, 0⟩ ∧ 0 ≤ q ∧ q < v ∧ 0 ≤ r ∧ r < d ∧ d * q + r = n * ((j + 1 : Nat) : Int)) ∨ (∃ e c, D.p.give y = ⟨2, 1, 50, c, 0, 0, v + e, 0⟩ ∧ 0 ≤ e ∧ 0 ≤ c ∧ c < 50 ∧ 50 * e + c + 1 ≤ ((j + 1 : Nat) : Int))) → GivS n d v (j + 1) (tickD D noI) := by
    intro y hw h0 h3 hgg hst
    obtain ⟨e1, e2⟩ := tick_calm hD.ok ha hD.t (y := y) (by rw [ho]; exact hw) h3
    rw [ho] at e1
    dsimp only at e1
    refine ⟨hk.1, ?_, ?_, ?_, ?_, ?_, ?_, ?_⟩
    · rw [e1]
    · rw [e1]; exact hm
    · rw [e1]; exact hD.rf
    · rw [e1]; exact e2
    · rw [hk.2.1, hD.len]
    · rw [e1]
      show (D.p.give y).g = sumT (D.t ++ _)
      rw [sumT_app, hgg, hD.sum]
      simp [sumT]
    · rw [e1]; exact hst
  rcases hD.st with ⟨q, r, hp, hq, hqv, hr0, hr1, he⟩ | ⟨e, c, hp, he, hc0, hc1, hb⟩
  · obtain ⟨y, g1, g2, g3, g4, g5⟩ := giv_one h hq hqv ⟨hr0, hr1⟩ he
    refine key y (by rw [hp]; exact g1) g2 g3 (by rw [hp]; exact g4) ?_
    rw [hp]
    exact g5
  · have hv : 1 ≤ v ∧ v ≤ 60 := h.2.2
    have hg : 0 ≤ v + e ∧ v + e ≤ 1000000 := by omega
    refine key ((c + 1) / 50) (by rw [hp]; exact kv_wants ⟨hc0, hc1⟩ hg) (by omega) (by omega) (by rw [hp, kv_give ⟨hc0, hc1⟩ hg]) (.inr ⟨e + (c + 1) / 50, (c + 1) % 50, ?_, by omega, by omega, by omega, by push_cast; omega⟩)
    rw [hp, kv_give ⟨hc0, hc1⟩ hg]
    refine pm_eqV rfl rfl rfl rfl rfl rfl ?_ rfl
    dsimp only
    omega
def ordI (n d v : Int) : Ic := ⟨0, [], [(1, n, d, v)], 0⟩
theorem ordI_ok {n d v : Int} (h : VolR n d v) : (ordI n d v).ok := ⟨by show (0 : Int) ≤ 0 ∧ (0 : Int) ≤ 15; decide, by show 0 ≤ 20; decide, .inr ⟨_, rfl⟩, by show (0 : Int) ≤ 0 ∧ (0 : Int) ≤ 1; decide, fun o ho => by
  rw [List.mem_singleton.1 ho]
  unfold VolR at h
  unfold OrdR
  dsimp only
  omega⟩
theorem giv_first {n d v : Int} (h : VolR n d v) : GivS n d v 1 (tickD newD (ordI n d v)) := by
  have hv := h
  unfold VolR at hv
  have ho : ordsD newD (ordI n d v) = ⟨⟨1, n, d, 0, v, 0, 0, 0⟩, 0, false⟩ := by
    unfold ordsD ordI newD
    simp only [allM, List.nil_append, takeL, List.foldl_cons, List.foldl_nil]
    rw [stepK_take (by simp)]
    dsimp only
    rw [vol_take h]
    simp
  have ha : alD newD (ordI n d v) = 0 := by
    unfold alD
    rw [ho]
    show G.feelA true 0 0 false = 0
    rw [feel_or (by omega), or_zero]
  have hk := tick_ok newD_ok (ordI_ok h)
  obtain ⟨y, g1, g2, g3, g4, g5⟩ := giv_one (q := 0) (r := 0) (j := 0) h (by omega) (by omega) (by omega) (by simp)
  rw [show v - 0 = v by omega] at g1 g4 g5
  obtain ⟨e1, e2⟩ := tick_calm newD_ok ha (fun x hx => by cases hx) (y := y) (by rw [ho]; exact g1) g3
  rw [ho] at e1
  dsimp only at e1
  refine ⟨hk.1, ?_, ?_, ?_, ?_, ?_, ?_, ?_⟩
  · rw [e1]
  · rw [e1]; rfl
  · rw [e1]
  · rw [e1]; exact e2
  · rw [hk.2.1]; rfl
  · rw [e1]
    show (Pm.give _ y).g = sumT ([] ++ _)
    rw [g4]
    simp [sumT]
  · rw [e1]; exact g5
theorem giv_run {n d v : Int} (h : VolR n d v) : ∀ (k : Nat), k ≤ 900 → GivS n d v (k + 1) (runD newD (ordI n d v :: List.replicate k noI))
  | 0, _ => giv_first h
  | k + 1, hk => by
    have ih := giv_run h k (by omega)
    have e : ordI n d v :: List.replicate (k + 1) noI = (ordI n d v :: List.replicate k noI) ++ [noI] := by rw [List.replicate_succ', List.cons_append]
    rw [e, runD_app]
    exact giv_step h (by omega) ih
/-- what FnGiven asks -/
theorem giv_end {n d v : Int} (h : VolR n d v) {D : Dv} (hD : GivS n d v 150 D) : 0 ≤ D.p.g ∧ D.p.g ≤ v + 3 ∧ (v * d ≤ 140 * n → v ≤ D.p.g ∧ D.p.l = 0) := by
  have hv := h
  unfold VolR at hv
  rcases hD.st with ⟨q, r, hp, hq, hqv, hr0, hr1, he⟩ | ⟨e, c, hp, he, hc0, hc1, hb⟩
  · rw [hp]
    dsimp only
    refine ⟨hq, by omega, fun hdone => ?_⟩
    exfalso
    have h1 : d * (q + 1) ≤ d * v := Int.mul_le_mul_of_nonneg_left (by omega) (by omega)
    rw [Int.mul_add, Int.mul_one] at h1
    rw [Int.mul_comm v d] at hdone
    have h2 : n * ((150 : Nat) : Int) = 150 * n := by rw [Int.mul_comm]; rfl
    omega
  · rw [hp]
    dsimp only
    refine ⟨by omega, by omega, fun _ => ⟨by omega, rfl⟩⟩
/-- FnSeen: two pulses a tick -/
structure SeeS (j k : Nat) (al : Int) (D : Dv) : Prop where
  ok : D.ok
  al : D.al = al
  m : D.m = newM
  rf : D.rf = 0
  t : AllT D.l
  len : D.t.length = k
  p : D.p = ⟨1, 2, 1, 0, 999 - 2 * j, 0, 2 * j, 0⟩
theorem see_vol {j : Nat} (hj : j ≤ 400) : Pm.ok ⟨1, 2, 1, 0, 999 - 2 * j, 0, 2 * j, 0⟩ := by
  unfold Pm.ok ratR
  dsimp only
  omega
theorem see_wants {j : Nat} (hj : j ≤ 400) : Pm.wants ⟨1, 2, 1, 0, 999 - 2 * j, 0, 2 * j, 0⟩ = 2 := by
  rw [wants_run (see_vol hj) (.inl rfl)]
  unfold Pm.base Pm.rate
  simp
  omega
theorem see_give {j : Nat} (hj : j ≤ 400) : Pm.give ⟨1, 2, 1, 0, 999 - 2 * j, 0, 2 * j, 0⟩ 2 = ⟨1, 2, 1, 0, 999 - 2 * ((j + 1 : Nat) : Int), 0, 2 * ((j + 1 : Nat) : Int), 0⟩ := by
  unfold Pm.give
  rw [if_pos ⟨ok_yes (see_vol hj), .inl rfl⟩]
  unfold Pm.giveR
  rw [see_wants hj]
  dsimp only
  rw [if_neg (by simp; omega)]
  refine pm_eqV rfl rfl rfl rfl ?_ ?_ ?_ rfl <;> simp <;> omega
/-- a tick of that device: what its orders leave, its alarm -/
theorem see_go {j k : Nat} {D : Dv} (hj : j ≤ 400) (hD : D.ok) (hT : AllT D.l) (hl : D.t.length = k) {i : Ic} (hi : i.ok) {s : Bool} (ho : ordsD D i = ⟨⟨1, 2, 1, 0, 999 - 2 * j, 0, 2 * j, 0⟩, 0, s⟩) (hm : (allM D.m i.ks).1 = newM) (ha : alD D i = 0) :
    SeeS (j + 1) (k + 1) 0 (tickD D i) ∧ (tickD D i).t = D.t ++ [(2, 0, 1)] := by
  have hk := tick_ok hD hi
  obtain ⟨e1, e2⟩ := tick_calm hD ha hT (y := 2) (by rw [ho]; exact see_wants hj) (by decide)
  rw [ho] at e1
  dsimp only at e1
  rw [see_give hj] at e1
  refine ⟨⟨hk.1, ?_, ?_, ?_, ?_, ?_, ?_⟩, ?_⟩
  · rw [e1]
  · rw [e1]; exact hm
  · rw [e1]
  · rw [e1]; exact e2
  · rw [hk.2.1, hl]
  · rw [e1]
  · rw [e1]
theorem see_stay {j k : Nat} {al al' : Int} {D : Dv} (hD : SeeS j k al D) {i : Ic} (hi : i.ok) (hks : i.ks = []) (hlo : i.lo = []) (hlr : i.lr = 0) (ha : G.feelA true al i.b false = al') (h0 : al' ≠ 0) : SeeS j (k + 1) al' (tickD D i) ∧ (tickD D i).t = D.t ++ [(0, al', 1)] := by
  have ho : ordsD D i = ⟨D.p, 0, false⟩ := by
    unfold ordsD
    rw [hks, hlo, hlr, hD.rf]
    simp [allM, takeL]
  have h1 : alD D i = al' := by unfold alD; rw [ho, hD.al]; exact ha
  have hn : numD D i = 0 := by unfold numD; rw [h1, if_neg h0]
  have hp : pmpD D i = D.p := by unfold pmpD; rw [h1, if_neg h0, ho]
  have hk := tick_ok hD.ok hi
  have e1 : tickD D i = ⟨D.p, G.passL true D.l 0, al', newM, D.t ++ [(0, al', D.p.s)], 0⟩ := by
    unfold tickD
    rw [hn, hp, h1, ho, hks]
    simp [allM, hD.m]
  refine ⟨⟨hk.1, ?_, ?_, ?_, ?_, ?_, ?_⟩, ?_⟩
  · rw [e1]
  · rw [e1]
  · rw [e1]
  · rw [e1]; exact allT_pass hD.t hD.ok.g.1 (by decide)
  · rw [hk.2.1, hD.len]
  · rw [e1]; exact hD.p
  · rw [e1, hD.p]
theorem see_no {j k : Nat} {D : Dv} (hj : j ≤ 400) (hD : SeeS j k 0 D) : SeeS (j + 1) (k + 1) 0 (tickD D noI) ∧ (tickD D noI).t = D.t ++ [(2, 0, 1)] := by
  refine see_go hj hD.ok hD.t hD.len noI_ok (s := false) ?_ hD.m ?_
  · rw [no_ords, hD.p, hD.rf]
  · unfold alD
    rw [no_ords, hD.al]
    show G.feelA true 0 0 false = 0
    rw [feel_or (by omega), or_zero]
def keyI (ks : List UInt8) : Ic := ⟨0, ks, [], 0⟩
def bitI (b : Int) : Ic := ⟨b, [], [], 0⟩
def k999 : List UInt8 := [98, 50, 10, 49, 10, 57, 57, 57, 10]
theorem k999_all : allM newM k999 = (newM, [(1, 2, 1, 999)]) := by rfl
theorem ks_all : allM newM [115] = (newM, [(5, 0, 0, 0)]) := by rfl
theorem keyI_ok {ks : List UInt8} (h : ks.length ≤ 20) : (keyI ks).ok := ⟨by show (0 : Int) ≤ 0 ∧ (0 : Int) ≤ 15; decide, h, .inl rfl, by show (0 : Int) ≤ 0 ∧ (0 : Int) ≤ 1; decide, fun o h => by cases h⟩
theorem bitI_ok {b : Int} (h : 0 ≤ b ∧ b ≤ 15) : (bitI b).ok := ⟨h, by show 0 ≤ 20; decide, .inl rfl, by show (0 : Int) ≤ 0 ∧ (0 : Int) ≤ 1; decide, fun o h => by cases h⟩
theorem see_first : SeeS 1 1 0 (tickD newD (keyI k999)) ∧ (tickD newD (keyI k999)).t = [(2, 0, 1)] := by
  refine see_go (j := 0) (k := 0) (by decide) newD_ok (fun x hx => by cases hx) rfl (keyI_ok (by decide)) (s := false) ?_ ?_ ?_
  · unfold ordsD keyI newD
    dsimp only
    rw [k999_all]
    rfl
  · show (allM newM k999).1 = newM
    rw [k999_all]
  · have ho : ordsD newD (keyI k999) = ⟨⟨1, 2, 1, 0, 999, 0, 0, 0⟩, 0, false⟩ := by
      unfold ordsD keyI newD
      dsimp only
      rw [k999_all]
      rfl
    unfold alD
    rw [ho]
    decide
theorem see_end {j k : Nat} {al : Int} {D : Dv} (hj : j ≤ 400) (hD : SeeS j k al D) : SeeS (j + 1) (k + 1) 0 (tickD D (keyI [115])) ∧ (tickD D (keyI [115])).t = D.t ++ [(2, 0, 1)] := by
  have ho : ordsD D (keyI [115]) = ⟨D.p, 0, true⟩ := by
    unfold ordsD keyI
    dsimp only
    rw [hD.m, ks_all, hD.rf]
    simp [takeL, stepK]
  refine see_go hj hD.ok hD.t hD.len (keyI_ok (by decide)) (s := true) ?_ ?_ ?_
  · rw [ho, hD.p]
  · show (allM D.m [115]).1 = newM
    rw [hD.m, ks_all]
  · unfold alD
    rw [ho]
    exact feel_seen (by decide)
end Go.Proofs.YtdifmjcghaoilaaGreatDoor

namespace Go.Proofs.YtdifmjcghaoilaaGreatDoor
open Go.RowKit Go.PlainAid
set_option linter.unusedVariables false
set_option linter.unusedSimpArgs false

def plsF (t : List Tk3) : List Int := t.map (·.1)
structure TruS (D : Dv) : Prop where
  ok : D.ok
  past : D.l = (plsF D.t).reverse.take 9
  win : ∀ a b c, plsF D.t = a ++ b ++ c → b.length ≤ 10 → G.sumN b ≤ 30
  nn : ∀ x ∈ D.t, 0 ≤ x.1 ∧ x.1 ≤ 30
  stop : ∀ x ∈ D.t, x.2.1 ≠ 0 → x.1 = 0
  last : (D.t = [] ∧ D.al = 0) ∨ ∃ t n s, D.t = t ++ [(n, D.al, s)]
theorem tru_new : TruS newD := by
  refine ⟨newD_ok, rfl, ?_, ?_, ?_, .inl ⟨rfl, rfl⟩⟩
  · intro a b c h _
    have hb : b = [] := by
      have h' : ([] : List Int) = a ++ b ++ c := h
      have h2 := congrArg List.length h'
      simp at h2
      exact List.length_eq_zero_iff.1 (by omega)
    subst hb
    show (0 : Int) ≤ 30
    decide
  · intro x h
    cases h
  · intro x h
    cases h
theorem num_room {D : Dv} (h : D.ok) (i : Ic) : 0 ≤ numD D i ∧ numD D i + G.sumN D.l ≤ 30 ∧ G.letG D.l (numD D i) = numD D i := by
  have h2 := G.letG_bd h.g (ordsD D i).p.wants
  have h3 := h.g.2.2.2
  have h1 : 0 ≤ numD D i ∧ numD D i + G.sumN D.l ≤ 30 := by
    unfold numD
    split
    · omega
    · omega
  refine ⟨h1.1, h1.2, ?_⟩
  unfold G.letG
  omega
theorem suffix_sum {s a b : List Int} (h : s = a ++ b) (hb : b.length ≤ 9) (hn : ∀ x ∈ s, 0 ≤ x ∧ x ≤ 30) : G.sumN b ≤ G.sumN (s.reverse.take 9) := by
  have e : s.reverse = b.reverse ++ a.reverse := by rw [h, List.reverse_append]
  have e2 : (s.reverse.take 9).take b.length = b.reverse := by
    rw [List.take_take, Nat.min_eq_left hb, e, List.take_left' (by rw [List.length_reverse])]
  rw [← G.sumN_rev b, ← e2]
  refine G.sumN_cut (fun i hi => ?_) _
  have hm := List.getElem_mem hi
  have hm2 := List.mem_of_mem_take hm
  exact hn _ (List.mem_reverse.1 hm2)
theorem tru_tick {D : Dv} (h : TruS D) {i : Ic} (hi : i.ok) : TruS (tickD D i) := by
  obtain ⟨n0, n1, n2⟩ := num_room h.ok i
  have hbd := num_bd h.ok i
  have et : (tickD D i).t = D.t ++ [(numD D i, alD D i, (pmpD D i).s)] := rfl
  have ef : plsF (tickD D i).t = plsF D.t ++ [numD D i] := by rw [et]; unfold plsF; rw [List.map_append]; rfl
  have hnn : ∀ x ∈ plsF D.t, 0 ≤ x ∧ x ≤ 30 := fun x hx => by
    obtain ⟨y, hy, rfl⟩ := List.mem_map.1 hx
    exact h.nn y hy
  refine ⟨(tick_ok h.ok hi).1, ?_, ?_, ?_, ?_, ?_⟩
  · show G.passL true D.l (numD D i) = _
    rw [ef, List.reverse_append]
    unfold G.passL
    rw [if_pos rfl, n2]
    show _ = (numD D i :: (plsF D.t).reverse).take 9
    rw [List.take_succ_cons, List.take_succ_cons, h.past, List.take_take]
    rfl
  · intro a b c hs hb
    rw [ef] at hs
    rcases List.eq_nil_or_concat c with rfl | ⟨c', z, rfl⟩
    · rw [List.append_nil] at hs
      rcases List.eq_nil_or_concat b with rfl | ⟨b', z, rfl⟩
      · show (0 : Int) ≤ 30
        decide
      · rw [List.concat_eq_append, ← List.append_assoc] at hs
        obtain ⟨h1, h2⟩ := List.append_inj' hs rfl
        have hz : numD D i = z := by simpa using h2
        have hl : b'.length ≤ 9 := by rw [List.concat_eq_append, List.length_append] at hb; simp at hb; omega
        have h3 := suffix_sum h1 hl hnn
        rw [← h.past] at h3
        rw [List.concat_eq_append, G.sumN_app]
        show G.sumN b' + (z + 0) ≤ 30
        omega
    · rw [List.concat_eq_append, ← List.append_assoc] at hs
      obtain ⟨h1, _⟩ := List.append_inj' hs rfl
      exact h.win a b c' h1 hb
  · intro x hx
    rw [et] at hx
    rcases List.mem_append.1 hx with hx | hx
    · exact h.nn x hx
    · rw [List.mem_singleton.1 hx]; exact ⟨hbd.1, hbd.2.1⟩
  · intro x hx ha
    rw [et] at hx
    rcases List.mem_append.1 hx with hx | hx
    · exact h.stop x hx ha
    · rw [List.mem_singleton.1 hx] at ha ⊢
      show numD D i = 0
      unfold numD
      rw [if_neg ha]
  · exact .inr ⟨D.t, numD D i, (pmpD D i).s, rfl⟩
theorem tru_run : ∀ (l : List Ic) {D : Dv}, TruS D → (∀ i ∈ l, i.ok) → TruS (runD D l)
  | [], _, h, _ => h
  | i :: l, D, h, hl => by
    rw [runD_cons]
    exact tru_run l (tru_tick h (hl i (List.mem_cons_self ..))) (fun j hj => hl j (List.mem_cons_of_mem _ hj))
/-- each span of ten ticks, as a list gone through tells it -/
theorem tru_span {D : Dv} (h : TruS D) (i : Nat) : G.sumN (((plsF D.t).drop i).take 10) ≤ 30 := by
  refine h.win ((plsF D.t).take i) _ (((plsF D.t).drop i).drop 10) ?_ (List.length_take_le ..)
  rw [List.append_assoc, List.take_append_drop, List.take_append_drop]
/-- the alarm of a tick: what was felt, and what was ahead, unless it was seen -/
theorem tru_al (D : Dv) {i : Ic} (hi : i.ok) : alD D i = if (ordsD D i).s = true then i.b else G.orI D.al i.b := by
  unfold alD
  by_cases h : (ordsD D i).s = true
  · rw [h, feel_seen hi.1, if_pos rfl]
  · have h' : (ordsD D i).s = false := by simpa using h
    rw [h', feel_or hi.1, if_neg (by decide)]
/-- whether it was seen: whether one of the orders is that one -/
theorem takeL_seen : ∀ (l : List Od4) (x : Tks), (takeL x l).s = (x.s || l.any (fun o => o.1 == 5))
  | [], x => by simp [takeL]
  | o :: l, x => by
    rw [takeL_cons, takeL_seen l]
    by_cases h5 : o.1 = 5
    · rw [stepK_seen h5]
      simp [h5]
    · rw [stepK_take h5]
      have : (o.1 == 5) = false := by simpa using h5
      simp [this]
end Go.Proofs.YtdifmjcghaoilaaGreatDoor

namespace Go.Proofs.YtdifmjcghaoilaaGreatDoor
open Go.RowKit Go.PlainAid
set_option linter.unusedVariables false
set_option linter.unusedSimpArgs false

theorem run_pre : ∀ (l : List Ic) (D : Dv), ∃ r, (runD D l).t = D.t ++ r
  | [], D => ⟨[], by simp [runD]⟩
  | i :: l, D => by
    obtain ⟨r, hr⟩ := run_pre l (tickD D i)
    refine ⟨[(numD D i, alD D i, (pmpD D i).s)] ++ r, ?_⟩
    rw [runD_cons, hr]
    show (D.t ++ [(numD D i, alD D i, (pmpD D i).s)]) ++ r = _
    rw [List.append_assoc]
theorem run_tlen : ∀ (l : List Ic) (D : Dv), (runD D l).t.length = D.t.length + l.length
  | [], D => by simp [runD]
  | i :: l, D => by
    rw [runD_cons, run_tlen l]
    show (D.t ++ [(numD D i, alD D i, (pmpD D i).s)]).length + l.length = _
    simp
    omega
/-- the device ahead of tick j -/
def atD (l : List Ic) (j : Nat) : Dv := runD newD (l.take j)
theorem atD_zero (l : List Ic) : atD l 0 = newD := by simp [atD, runD]
theorem atD_succ {l : List Ic} {j : Nat} (h : j < l.length) : atD l (j + 1) = tickD (atD l j) l[j] := runD_take h newD
theorem atD_len {l : List Ic} {j : Nat} (h : j ≤ l.length) : (atD l j).t.length = j := by
  unfold atD
  rw [run_tlen, List.length_take]
  show 0 + _ = _
  omega
theorem tick_at {l : List Ic} {j : Nat} (h : j < l.length) (hj : j < (runD newD l).t.length) : (runD newD l).t[j] = (numD (atD l j) l[j], alD (atD l j) l[j], (pmpD (atD l j) l[j]).s) := by
  have e1 : runD newD l = runD (atD l (j + 1)) (l.drop (j + 1)) := by
    unfold atD
    rw [← runD_app, List.take_append_drop]
  obtain ⟨r, hr⟩ := run_pre (l.drop (j + 1)) (atD l (j + 1))
  rw [← e1, atD_succ h] at hr
  have hl := atD_len (Nat.le_of_lt h)
  have hr2 : (runD newD l).t = ((atD l j).t ++ [(numD (atD l j) l[j], alD (atD l j) l[j], (pmpD (atD l j) l[j]).s)]) ++ r := hr
  have : (runD newD l).t[j]? = some (numD (atD l j) l[j], alD (atD l j) l[j], (pmpD (atD l j) l[j]).s) := by
    rw [hr2, List.append_assoc, List.getElem?_append_right (by omega), hl, Nat.sub_self]
    rfl
  rw [List.getElem?_eq_getElem hj] at this
  exact Option.some.inj this
/-- the alarm ahead of tick j -/
def alJ (l : List Ic) (j : Nat) : Int := (atD l j).al
theorem alJ_zero (l : List Ic) : alJ l 0 = 0 := by unfold alJ; rw [atD_zero]; rfl
theorem alJ_succ {l : List Ic} {j : Nat} (h : j < l.length) : alJ l (j + 1) = alD (atD l j) l[j] := by unfold alJ; rw [atD_succ h]; rfl
theorem atD_ok {l : List Ic} (hl : ∀ i ∈ l, i.ok) (j : Nat) : (atD l j).ok := (run_okD (l.take j) newD_ok (fun i hi => hl i (List.mem_of_mem_take hi))).1
theorem alJ_bd {l : List Ic} (hl : ∀ i ∈ l, i.ok) (j : Nat) : 0 ≤ alJ l j ∧ alJ l j ≤ 15 := (atD_ok hl j).g.2.1
/-- the orders of tick j -/
def osJ (l : List Ic) (j : Nat) (i : Ic) : List Od4 := (allM (atD l j).m i.ks).2 ++ i.lo
/-- whether one of them says that it is seen -/
def snJ (l : List Ic) (j : Nat) (i : Ic) : Bool := (osJ l j i).any (fun o => o.1 == 5)
theorem snJ_is (l : List Ic) (j : Nat) (i : Ic) : (ordsD (atD l j) i).s = snJ l j i := by
  unfold ordsD snJ osJ
  rw [takeL_seen]
  rfl
theorem al_held {l : List Ic} (hl : ∀ i ∈ l, i.ok) {j : Nat} (h : j < l.length) : alJ l (j + 1) = if snJ l j l[j] = true then l[j].b else G.orI (alJ l j) l[j].b := by
  rw [alJ_succ h, tru_al _ (hl _ (List.getElem_mem h)), snJ_is]
  rfl
theorem ord_seen {k n d v : Int} (h : OrdR k n d v) : k = 5 → n = 0 ∧ d = 0 ∧ v = 0 := by
  intro e
  unfold OrdR at h
  omega
theorem osJ_right {l : List Ic} {j : Nat} {i : Ic} (hi : i.ok) : ∀ o ∈ osJ l j i, OrdR o.1 o.2.1 o.2.2.1 o.2.2.2 := by
  intro o ho
  rcases List.mem_append.1 ho with h | h
  · exact allM_r _ _ o h
  · exact hi.2.2.2.2 o h
theorem and_one : ∀ b : Fin 16, IntKind.i64.wrap ((BitVec.ofInt 64 (b.val : Int) &&& BitVec.ofInt 64 (b.val : Int)).toNat : Int) = (b.val : Int) := by decide
theorem and_two : ∀ a b : Fin 16, IntKind.i64.wrap ((BitVec.ofInt 64 (G.orI (a.val : Int) (b.val : Int)) &&& BitVec.ofInt 64 (G.orI (b.val : Int) (a.val : Int))).toNat : Int) = G.orI (b.val : Int) (a.val : Int) := by decide +kernel
theorem and_self15 {b : Int} (hb : 0 ≤ b ∧ b ≤ 15) : IntKind.i64.wrap ((BitVec.ofInt 64 b &&& BitVec.ofInt 64 b).toNat : Int) = b := by
  have h := and_one ⟨b.toNat, by omega⟩
  have e : ((b.toNat : Nat) : Int) = b := by omega
  simp only [e] at h
  exact h
theorem and_or15 {a b : Int} (ha : 0 ≤ a ∧ a ≤ 15) (hb : 0 ≤ b ∧ b ≤ 15) : IntKind.i64.wrap ((BitVec.ofInt 64 (G.orI a b) &&& BitVec.ofInt 64 (G.orI b a)).toNat : Int) = G.orI b a := by
  have h := and_two ⟨a.toNat, by omega⟩ ⟨b.toNat, by omega⟩
  have e : ((a.toNat : Nat) : Int) = a := by omega
  have e2 : ((b.toNat : Nat) : Int) = b := by omega
  simp only [e, e2] at h
  exact h
end Go.Proofs.YtdifmjcghaoilaaGreatDoor
