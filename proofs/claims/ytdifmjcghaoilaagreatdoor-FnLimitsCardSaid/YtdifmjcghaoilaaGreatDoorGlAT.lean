/-
  The mathematics of a device: orders one behind the other, a tick, ticks.
-/
import Derived.Test.YtdifmjcghaoilaaGreatDoorGlAB
import Derived.Test.YtdifmjcghaoilaaGreatDoorGlAS
import Derived.Test.YtdifmjcghaoilaaGreatDoorGlAH
import Derived.Test.YtdifmjcghaoilaaGreatDoorGlAP
namespace Go.Proofs.YtdifmjcghaoilaaGreatDoor
open Go.RowKit Go.PlainAid
set_option linter.unusedVariables false
set_option linter.unusedSimpArgs false

/-- what orders leave: the pump, how many were refused, whether one said that it is seen -/
structure Tks where
  p : Pm
  r : Int
  s : Bool
def stepK (x : Tks) (o : Od4) : Tks := if o.1 = 5 then ⟨x.p, x.r, true⟩ else ⟨(x.p.take o.1 o.2.1 o.2.2.1 o.2.2.2).1, if (x.p.take o.1 o.2.1 o.2.2.1 o.2.2.2).2 = true then x.r else x.r + 1, x.s⟩
def takeL (x : Tks) (l : List Od4) : Tks := l.foldl stepK x
theorem takeL_cons (x : Tks) (o : Od4) (l : List Od4) : takeL x (o :: l) = takeL (stepK x o) l := rfl
theorem takeL_app (x : Tks) (l k : List Od4) : takeL x (l ++ k) = takeL (takeL x l) k := List.foldl_append ..
theorem takeL_take {l : List Od4} {j : Nat} (h : j < l.length) (x : Tks) : takeL x (l.take (j + 1)) = stepK (takeL x (l.take j)) l[j] := by
  rw [← List.take_append_getElem h, takeL_app]
  rfl
theorem stepK_seen {x : Tks} {o : Od4} (h : o.1 = 5) : stepK x o = ⟨x.p, x.r, true⟩ := if_pos h
theorem stepK_take {x : Tks} {o : Od4} (h : ¬ o.1 = 5) : stepK x o = ⟨(x.p.take o.1 o.2.1 o.2.2.1 o.2.2.2).1, if (x.p.take o.1 o.2.1 o.2.2.1 o.2.2.2).2 = true then x.r else x.r + 1, x.s⟩ := if_neg h
theorem take_g (p : Pm) (k n d v : Int) : (p.take k n d v).1.g = p.g := by
  unfold Pm.take
  repeat' split
  all_goals rfl
theorem stepK_ok {x : Tks} (h : x.p.ok) (o : Od4) : (stepK x o).p.ok ∧ (stepK x o).p.g = x.p.g ∧ x.r ≤ (stepK x o).r ∧ (stepK x o).r ≤ x.r + 1 := by
  by_cases h5 : o.1 = 5
  · rw [stepK_seen h5]
    exact ⟨h, rfl, Int.le_refl _, by show x.r ≤ x.r + 1; omega⟩
  · rw [stepK_take h5]
    refine ⟨take_ok h _ _ _ _, take_g _ _ _ _ _, ?_, ?_⟩
    all_goals dsimp only; split <;> omega
theorem takeL_ok : ∀ (l : List Od4) {x : Tks}, x.p.ok → (takeL x l).p.ok ∧ (takeL x l).p.g = x.p.g ∧ x.r ≤ (takeL x l).r ∧ (takeL x l).r ≤ x.r + l.length
  | [], x, h => ⟨h, rfl, Int.le_refl _, by simp [takeL]⟩
  | o :: l, x, h => by
    obtain ⟨h1, h2, h3, h4⟩ := stepK_ok h o
    obtain ⟨g1, g2, g3, g4⟩ := takeL_ok l h1
    rw [takeL_cons]
    refine ⟨g1, g2.trans h2, by omega, ?_⟩
    rw [List.length_cons]
    omega
/-- a device -/
structure Dv where
  p : Pm
  l : List Int
  al : Int
  m : Mn
  t : List Tk3
  rf : Int
def newD : Dv := ⟨newP, [], 0, newM, [], 0⟩
/-- what comes in a tick: bits, keys, the link's orders, how many of the link are refused -/
structure Ic where
  b : Int
  ks : List UInt8
  lo : List Od4
  lr : Int
/-- what the orders of a tick leave -/
def ordsD (D : Dv) (i : Ic) : Tks := takeL ⟨D.p, D.rf + i.lr, false⟩ ((allM D.m i.ks).2 ++ i.lo)
def alD (D : Dv) (i : Ic) : Int := G.feelA true D.al i.b (ordsD D i).s
def numD (D : Dv) (i : Ic) : Int := if alD D i = 0 then G.letG D.l (ordsD D i).p.wants else 0
def pmpD (D : Dv) (i : Ic) : Pm := if alD D i = 0 then (ordsD D i).p.give (numD D i) else (ordsD D i).p
def tickD (D : Dv) (i : Ic) : Dv := ⟨pmpD D i, G.passL true D.l (numD D i), alD D i, (allM D.m i.ks).1, D.t ++ [(numD D i, alD D i, (pmpD D i).s)], (ordsD D i).r⟩
def runD (D : Dv) (l : List Ic) : Dv := l.foldl tickD D
theorem runD_cons (D : Dv) (i : Ic) (l : List Ic) : runD D (i :: l) = runD (tickD D i) l := rfl
theorem runD_app (D : Dv) (l k : List Ic) : runD D (l ++ k) = runD (runD D l) k := List.foldl_append ..
/-- what may come in -/
def Ic.ok (i : Ic) : Prop := (0 ≤ i.b ∧ i.b ≤ 15) ∧ i.ks.length ≤ 20 ∧ (i.lo = [] ∨ ∃ o, i.lo = [o]) ∧ (0 ≤ i.lr ∧ i.lr ≤ 1) ∧ (∀ o ∈ i.lo, OrdR o.1 o.2.1 o.2.2.1 o.2.2.2)
/-- a device that ticks lead to -/
structure Dv.ok (D : Dv) : Prop where
  p : D.p.ok
  g : G.GdR D.l D.al
  m : GdM D.m
  r : 0 ≤ D.rf
theorem newD_ok : newD.ok := ⟨new_ok, G.gd_new, GdM.new, Int.le_refl _⟩
theorem lo_len {i : Ic} (h : i.ok) : i.lo.length ≤ 1 := by
  rcases h.2.2.1 with e | ⟨o, e⟩ <;> rw [e] <;> simp
theorem ords_ok {D : Dv} (h : D.ok) {i : Ic} (hi : i.ok) : (ordsD D i).p.ok ∧ (ordsD D i).p.g = D.p.g ∧ D.rf ≤ (ordsD D i).r ∧ (ordsD D i).r ≤ D.rf + 22 := by
  obtain ⟨h1, h2, h3, h4⟩ := takeL_ok ((allM D.m i.ks).2 ++ i.lo) (x := ⟨D.p, D.rf + i.lr, false⟩) h.p
  have e1 := allM_len i.ks D.m
  have e2 := lo_len hi
  have e3 := hi.2.1
  have e4 := hi.2.2.2.1
  rw [List.length_append] at h4
  refine ⟨h1, h2, ?_, ?_⟩
  · have : (⟨D.p, D.rf + i.lr, false⟩ : Tks).r ≤ (ordsD D i).r := h3
    dsimp only at this
    omega
  · have : (ordsD D i).r ≤ (⟨D.p, D.rf + i.lr, false⟩ : Tks).r + (((allM D.m i.ks).2.length + i.lo.length : Nat) : Int) := h4
    dsimp only at this
    omega
theorem tick_ok {D : Dv} (h : D.ok) {i : Ic} (hi : i.ok) : (tickD D i).ok ∧ (tickD D i).t.length = D.t.length + 1 ∧ (tickD D i).rf ≤ D.rf + 22 := by
  obtain ⟨h1, h2, h3, h4⟩ := ords_ok h hi
  refine ⟨⟨?_, G.passL_ok (G.feel_ok h.g true i.b _) true _, GdM.all i.ks h.m, ?_⟩, ?_, h4⟩
  · show (pmpD D i).ok
    unfold pmpD
    split
    · exact give_ok h1 _
    · exact h1
  · show 0 ≤ (ordsD D i).r
    have := h.r
    omega
  · simp [tickD]
theorem run_okD : ∀ (l : List Ic) {D : Dv}, D.ok → (∀ i ∈ l, i.ok) → (runD D l).ok ∧ (runD D l).t.length = D.t.length + l.length ∧ (runD D l).rf ≤ D.rf + 22 * l.length
  | [], D, h, _ => ⟨h, rfl, by simp [runD]⟩
  | i :: l, D, h, hl => by
    obtain ⟨h1, h2, h3⟩ := tick_ok h (hl i (List.mem_cons_self ..))
    obtain ⟨g1, g2, g3⟩ := run_okD l h1 (fun j hj => hl j (List.mem_cons_of_mem _ hj))
    rw [runD_cons]
    refine ⟨g1, ?_, ?_⟩
    · rw [g2, h2, List.length_cons]; omega
    · rw [List.length_cons]
      push_cast
      omega
theorem num_bd {D : Dv} (h : D.ok) (i : Ic) : 0 ≤ numD D i ∧ numD D i ≤ 30 ∧ numD D i ≤ (ordsD D i).p.wants := by
  have h1 := wants_bd (ordsD D i).p
  have h2 := G.letG_bd h.g (ordsD D i).p.wants
  unfold numD
  split
  · refine ⟨h2.1, h2.2.2, ?_⟩
    have hs := G.sumN_bd h.g.2.2.1
    unfold G.letG
    omega
  · omega
/-- what a tick gave is what was given -/
theorem tick_given {D : Dv} (h : D.ok) {i : Ic} (hi : i.ok) (hg : D.p.g ≤ 999999999990) : (tickD D i).p.g = D.p.g + numD D i := by
  obtain ⟨h1, h2, _, _⟩ := ords_ok h hi
  have hn := num_bd h i
  show (pmpD D i).g = _
  unfold pmpD
  by_cases ha : alD D i = 0
  · rw [if_pos ha]
    unfold Pm.give
    by_cases hr : (ordsD D i).p.okB = true ∧ ((ordsD D i).p.s = 1 ∨ (ordsD D i).p.s = 2)
    · rw [if_pos hr, giveR_g, h2]
      have hw := wants_bd (ordsD D i).p
      omega
    · rw [if_neg hr, h2]
      have : (ordsD D i).p.wants = 0 := by unfold Pm.wants; rw [if_neg hr]
      omega
  · rw [if_neg ha, h2]
    unfold numD
    rw [if_neg ha]
    omega
def sumT : List Tk3 → Int
  | [] => 0
  | x :: l => x.1 + sumT l
theorem sumT_app : ∀ (x y : List Tk3), sumT (x ++ y) = sumT x + sumT y
  | [], y => by simp [sumT]
  | a :: x, y => by simp [sumT, sumT_app x y]; omega
/-- all that was given is the sum of the ticks -/
theorem run_given : ∀ (l : List Ic) {D : Dv}, D.ok → (∀ i ∈ l, i.ok) → D.p.g + 30 * (l.length : Int) ≤ 999999999990 → (runD D l).p.g - sumT (runD D l).t = D.p.g - sumT D.t ∧ (runD D l).p.g ≤ D.p.g + 30 * l.length
  | [], D, h, _, _ => ⟨rfl, by simp [runD]⟩
  | i :: l, D, h, hl, hg => by
    have hi := hl i (List.mem_cons_self ..)
    have e := tick_given h hi (by rw [List.length_cons] at hg; push_cast at hg; omega)
    have hn := num_bd h i
    obtain ⟨h1, h2, h3⟩ := tick_ok h hi
    obtain ⟨g1, g2⟩ := run_given l h1 (fun j hj => hl j (List.mem_cons_of_mem _ hj)) (by rw [List.length_cons] at hg; push_cast at hg; omega)
    rw [runD_cons]
    have e2 : sumT (tickD D i).t = sumT D.t + numD D i := by
      show sumT (D.t ++ [_]) = _
      rw [sumT_app]
      simp [sumT]
    refine ⟨by omega, ?_⟩
    rw [List.length_cons]
    push_cast
    omega
/-- the link's bytes and what they tell -/
def LkD (L : ByteArray) (lo : List Od4) (lr : Int) : Prop := (L.size = 0 ∧ lo = [] ∧ lr = 0) ∨ (L.size ≠ 0 ∧ ∃ k n d v b, RdOr L k n d v b ∧ ((b = true ∧ lo = [(k, n, d, v)] ∧ lr = 0) ∨ (b = false ∧ lo = [] ∧ lr = 1)))
theorem LkD.uni {L : ByteArray} {lo lo' : List Od4} {lr lr' : Int} (h : LkD L lo lr) (h' : LkD L lo' lr') : lo = lo' ∧ lr = lr' := by
  rcases h with ⟨h1, rfl, rfl⟩ | ⟨h1, k, n, d, v, b, h2, h3⟩ <;> rcases h' with ⟨g1, rfl, rfl⟩ | ⟨g1, k', n', d', v', b', g2, g3⟩
  · exact ⟨rfl, rfl⟩
  · exact absurd h1 g1
  · exact absurd g1 h1
  · obtain ⟨rfl, rfl, rfl, rfl, rfl⟩ := h2.uni g2
    rcases h3 with ⟨rfl, rfl, rfl⟩ | ⟨rfl, rfl, rfl⟩ <;> rcases g3 with ⟨e, rfl, rfl⟩ | ⟨e, rfl, rfl⟩
    · exact ⟨rfl, rfl⟩
    · cases e
    · cases e
    · exact ⟨rfl, rfl⟩
theorem LkD.ex (L : ByteArray) : ∃ lo lr, LkD L lo lr := by
  by_cases h : L.size = 0
  · exact ⟨[], 0, .inl ⟨h, rfl, rfl⟩⟩
  · by_cases h2 : ∃ k n d v, OrdR k n d v ∧ ordT k n d v = L
    · obtain ⟨k, n, d, v, h3, h4⟩ := h2
      exact ⟨[(k, n, d, v)], 0, .inr ⟨h, k, n, d, v, true, .inl ⟨h3, h4, rfl⟩, .inl ⟨rfl, rfl, rfl⟩⟩⟩
    · exact ⟨[], 1, .inr ⟨h, 0, 0, 0, 0, false, .inr ⟨fun k n d v h3 h4 => h2 ⟨k, n, d, v, h3, h4⟩, rfl, rfl, rfl, rfl, rfl⟩, .inr ⟨rfl, rfl, rfl⟩⟩⟩
theorem LkD.ord {L : ByteArray} {lo : List Od4} {lr : Int} (h : LkD L lo lr) : (lo = [] ∨ ∃ o, lo = [o]) ∧ (0 ≤ lr ∧ lr ≤ 1) ∧ (∀ o ∈ lo, OrdR o.1 o.2.1 o.2.2.1 o.2.2.2) := by
  rcases h with ⟨h1, rfl, rfl⟩ | ⟨h1, k, n, d, v, b, h2, h3⟩
  · exact ⟨.inl rfl, by decide, fun o h => by cases h⟩
  · rcases h3 with ⟨rfl, rfl, rfl⟩ | ⟨rfl, rfl, rfl⟩
    · refine ⟨.inr ⟨_, rfl⟩, by decide, fun o h => ?_⟩
      rw [List.mem_singleton.1 h]
      rcases h2 with ⟨h3, _⟩ | ⟨_, e, _⟩
      · exact h3
      · cases e
    · exact ⟨.inl rfl, by decide, fun o h => by cases h⟩
/-- an input as it lies in memory: bits, keys, link; and what it tells -/
structure Inp where
  i : Ic
  K : ByteArray
  L : ByteArray
def Inp.ok (x : Inp) : Prop := (⟨x.i.ks.toArray⟩ : ByteArray) = x.K ∧ LkD x.L x.i.lo x.i.lr ∧ (0 ≤ x.i.b ∧ x.i.b ≤ 15) ∧ x.K.size ≤ 20 ∧ x.L.size ≤ 40
theorem Inp.ok.ic {x : Inp} (h : x.ok) : x.i.ok := ⟨h.2.2.1, by have h1 := txt_size h.1; have h2 := h.2.2.2.1; omega, h.2.1.ord⟩
def Inp.V (x : Inp) : Value := .agg #[.int .i64 x.i.b, .string x.K, .string x.L]
end Go.Proofs.YtdifmjcghaoilaaGreatDoor

namespace Go.Proofs.YtdifmjcghaoilaaGreatDoor
open Go.RowKit Go.PlainAid
set_option linter.unusedVariables false
set_option linter.unusedSimpArgs false

end Go.Proofs.YtdifmjcghaoilaaGreatDoor

namespace Go.Proofs.YtdifmjcghaoilaaGreatDoor
open Go.RowKit Go.PlainAid
set_option linter.unusedVariables false
set_option linter.unusedSimpArgs false

end Go.Proofs.YtdifmjcghaoilaaGreatDoor

namespace Go.Proofs.YtdifmjcghaoilaaGreatDoor
open Go.RowKit Go.PlainAid
set_option linter.unusedVariables false
set_option linter.unusedSimpArgs false

def plsF (t : List Tk3) : List Int := t.map (·.1)
structure TruS (D : Dv) : Prop where
  ok : D.ok
  past : D.l = (plsF D.t).reverse.take 9
  win : ∀ a b c, plsF D.t = a ++ b ++ c → b.length ≤ 10 → G.sumN b ≤ 30
  nn : ∀ x ∈ D.t, 0 ≤ x.1 ∧ x.1 ≤ 30
  stop : ∀ x ∈ D.t, x.2.1 ≠ 0 → x.1 = 0
  last : (D.t = [] ∧ D.al = 0) ∨ ∃ t n s, D.t = t ++ [(n, D.al, s)]
theorem tru_new : TruS newD := by
  refine ⟨newD_ok, rfl, ?_, ?_, ?_, .inl ⟨rfl, rfl⟩⟩
  · intro a b c h _
    have hb : b = [] := by
      have h' : ([] : List Int) = a ++ b ++ c := h
      have h2 := congrArg List.length h'
      simp at h2
      exact List.length_eq_zero_iff.1 (by omega)
    subst hb
    show (0 : Int) ≤ 30
    decide
  · intro x h
    cases h
  · intro x h
    cases h
theorem num_room {D : Dv} (h : D.ok) (i : Ic) : 0 ≤ numD D i ∧ numD D i + G.sumN D.l ≤ 30 ∧ G.letG D.l (numD D i) = numD D i := by
  have h2 := G.letG_bd h.g (ordsD D i).p.wants
  have h3 := h.g.2.2.2
  have h1 : 0 ≤ numD D i ∧ numD D i + G.sumN D.l ≤ 30 := by
    unfold numD
    split
    · omega
    · omega
  refine ⟨h1.1, h1.2, ?_⟩
  unfold G.letG
  omega
theorem suffix_sum {s a b : List Int} (h : s = a ++ b) (hb : b.length ≤ 9) (hn : ∀ x ∈ s, 0 ≤ x ∧ x ≤ 30) : G.sumN b ≤ G.sumN (s.reverse.take 9) := by
  have e : s.reverse = b.reverse ++ a.reverse := by rw [h, List.reverse_append]
  have e2 : (s.reverse.take 9).take b.length = b.reverse := by
    rw [List.take_take, Nat.min_eq_left hb, e, List.take_left' (by rw [List.length_reverse])]
  rw [← G.sumN_rev b, ← e2]
  refine G.sumN_cut (fun i hi => ?_) _
  have hm := List.getElem_mem hi
  have hm2 := List.mem_of_mem_take hm
  exact hn _ (List.mem_reverse.1 hm2)
theorem tru_tick {D : Dv} (h : TruS D) {i : Ic} (hi : i.ok) : TruS (tickD D i) := by
  obtain ⟨n0, n1, n2⟩ := num_room h.ok i
  have hbd := num_bd h.ok i
  have et : (tickD D i).t = D.t ++ [(numD D i, alD D i, (pmpD D i).s)] := rfl
  have ef : plsF (tickD D i).t = plsF D.t ++ [numD D i] := by rw [et]; unfold plsF; rw [List.map_append]; rfl
  have hnn : ∀ x ∈ plsF D.t, 0 ≤ x ∧ x ≤ 30 := fun x hx => by
    obtain ⟨y, hy, rfl⟩ := List.mem_map.1 hx
    exact h.nn y hy
  refine ⟨(tick_ok h.ok hi).1, ?_, ?_, ?_, ?_, ?_⟩
  · show G.passL true D.l (numD D i) = _
    rw [ef, List.reverse_append]
    unfold G.passL
    rw [if_pos rfl, n2]
    show _ = (numD D i :: (plsF D.t).reverse).take 9
    rw [List.take_succ_cons, List.take_succ_cons, h.past, List.take_take]
    rfl
  · intro a b c hs hb
    rw [ef] at hs
    rcases List.eq_nil_or_concat c with rfl | ⟨c', z, rfl⟩
    · rw [List.append_nil] at hs
      rcases List.eq_nil_or_concat b with rfl | ⟨b', z, rfl⟩
      · show (0 : Int) ≤ 30
        decide
      · rw [List.concat_eq_append, ← List.append_assoc] at hs
        obtain ⟨h1, h2⟩ := List.append_inj' hs rfl
        have hz : numD D i = z := by simpa using h2
        have hl : b'.length ≤ 9 := by rw [List.concat_eq_append, List.length_append] at hb; simp at hb; omega
        have h3 := suffix_sum h1 hl hnn
        rw [← h.past] at h3
        rw [List.concat_eq_append, G.sumN_app]
        show G.sumN b' + (z + 0) ≤ 30
        omega
    · rw [List.concat_eq_append, ← List.append_assoc] at hs
      obtain ⟨h1, _⟩ := List.append_inj' hs rfl
      exact h.win a b c' h1 hb
  · intro x hx
    rw [et] at hx
    rcases List.mem_append.1 hx with hx | hx
    · exact h.nn x hx
    · rw [List.mem_singleton.1 hx]; exact ⟨hbd.1, hbd.2.1⟩
  · intro x hx ha
    rw [et] at hx
    rcases List.mem_append.1 hx with hx | hx
    · exact h.stop x hx ha
    · rw [List.mem_singleton.1 hx] at ha ⊢
      show numD D i = 0
      unfold numD
      rw [if_neg ha]
  · exact .inr ⟨D.t, numD D i, (pmpD D i).s, rfl⟩
theorem tru_run : ∀ (l : List Ic) {D : Dv}, TruS D → (∀ i ∈ l, i.ok) → TruS (runD D l)
  | [], _, h, _ => h
  | i :: l, D, h, hl => by
    rw [runD_cons]
    exact tru_run l (tru_tick h (hl i (List.mem_cons_self ..))) (fun j hj => hl j (List.mem_cons_of_mem _ hj))
/-- each span of ten ticks, as a list gone through tells it -/
theorem tru_span {D : Dv} (h : TruS D) (i : Nat) : G.sumN (((plsF D.t).drop i).take 10) ≤ 30 := by
  refine h.win ((plsF D.t).take i) _ (((plsF D.t).drop i).drop 10) ?_ (List.length_take_le ..)
  rw [List.append_assoc, List.take_append_drop, List.take_append_drop]
end Go.Proofs.YtdifmjcghaoilaaGreatDoor
