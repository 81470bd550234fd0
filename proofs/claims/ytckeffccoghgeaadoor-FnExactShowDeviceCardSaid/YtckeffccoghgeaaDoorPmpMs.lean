/-
  The mathematics of a pump: whether one is right, what an order makes of it, what it wants, what a tick makes of it.
-/
import Derived.Test.YtckeffccoghgeaaDoorRat15s
namespace Go.Proofs.YtckeffccoghgeaaDoor
open Go.RowKit Go.PlainAid
set_option linter.unusedVariables false
set_option linter.unusedSimpArgs false

abbrev PB (s n d r l b g k : Int) : Obj := .cells #[.int .i64 s, .int .i64 n, .int .i64 d, .int .i64 r, .int .i64 l, .int .i64 b, .int .i64 g, .int .i64 k] 38
abbrev PV (s n d r l b g k : Int) : Value := .agg #[.int .i64 s, .int .i64 n, .int .i64 d, .int .i64 r, .int .i64 l, .int .i64 b, .int .i64 g, .int .i64 k]
theorem sA {α : Type} (l : List α) (i : Nat) (a : α) : l.toArray.setIfInBounds i a = (l.set i a).toArray := by simp
theorem sB {α : Type} (x y : α) (l : List α) : (x :: l).set 0 y = y :: l := rfl
theorem sC {α : Type} (x y : α) (l : List α) (n : Nat) : (x :: l).set (n + 1) y = x :: l.set n y := rfl
theorem sD {α : Type} (l : List α) (i : Nat) (h : i < l.toArray.size) : l.toArray[i] = l[i]'(by simpa using h) := by simp
theorem sE {α : Type} (x : α) (l : List α) (h : 0 < (x :: l).length) : (x :: l)[0] = x := rfl
theorem sF {α : Type} (x : α) (l : List α) (n : Nat) (h : n + 1 < (x :: l).length) : (x :: l)[n + 1] = l[n]'(by simpa using h) := rfl
theorem tkA {P : Program} {md : Region.Mode} {ops : Array Oper} {Q : Exit → Act → World → Prop} {S : World → Prop} {i : Nat} {oi : Oper} {v : Value} {fuel : Nat} {listed : Array Bool} {a : Act} {w : World} (hi : ops[i]? = some oi) (hy : YieldsIf P ops S oi v a)
    (h : wpAnyH P md ops Q S fuel (listed.setIfInBounds i true) (a.put oi.dst v) w) (hs : Region.noSelect ops = true := by kernel_rfl) (hf : Region.free md ops listed i = true := by kernel_rfl) (hr : (Region.ready md ops listed).contains i = true := by kernel_rfl)
    (hQ : ∀ c a w, Q (.panic c) (a.put oi.dst v) w → Q (.panic c) a w := by exact fun _ _ _ h => h) (hS : S w := by assumption) : wpAnyH P md ops Q S (fuel + 1) listed a w := wpAnyH_take hi hs hf hr hQ hy hS h
/-- a pump: state, rate (number, by, rest), left, bolus, given, back -/
structure Pm where
  s : Int
  n : Int
  d : Int
  r : Int
  l : Int
  b : Int
  g : Int
  k : Int
def Pm.V (p : Pm) : Value := PV p.s p.n p.d p.r p.l p.b p.g p.k
def Pm.C (p : Pm) (t : TypeId) : Obj := .cells #[.int .i64 p.s, .int .i64 p.n, .int .i64 p.d, .int .i64 p.r, .int .i64 p.l, .int .i64 p.b, .int .i64 p.g, .int .i64 p.k] t
def ratR (n d r : Int) : Prop := 0 ≤ n ∧ n ≤ 1000000 ∧ 1 ≤ d ∧ d ≤ 1000000 ∧ 0 ≤ r ∧ r ≤ d - 1
def Pm.ok (p : Pm) : Prop := (0 ≤ p.s ∧ p.s ≤ 3) ∧ ratR p.n p.d p.r ∧ p.n ≤ 3 * p.d ∧ (0 ≤ p.l ∧ p.l ≤ 5000) ∧ (0 < p.l ↔ (p.s = 1 ∨ (p.s = 3 ∧ p.k = 1))) ∧ (0 ≤ p.b ∧ p.b ≤ 100) ∧ (0 ≤ p.g ∧ p.g ≤ 1000000000000) ∧ (0 ≤ p.k ∧ p.k ≤ 2) ∧ (p.s = 3 ∨ p.k = 0)
def Pm.okB (p : Pm) : Bool := decide ((0 ≤ p.s ∧ p.s ≤ 3) ∧ (0 ≤ p.n ∧ p.n ≤ 1000000 ∧ 1 ≤ p.d ∧ p.d ≤ 1000000 ∧ 0 ≤ p.r ∧ p.r ≤ p.d - 1) ∧ p.n ≤ 3 * p.d ∧ (0 ≤ p.l ∧ p.l ≤ 5000) ∧ (0 < p.l ↔ (p.s = 1 ∨ (p.s = 3 ∧ p.k = 1))) ∧ (0 ≤ p.b ∧ p.b ≤ 100) ∧ (0 ≤ p.g ∧ p.g ≤ 1000000000000) ∧ (0 ≤ p.k ∧ p.k ≤ 2) ∧ (p.s = 3 ∨ p.k = 0))
theorem Pm.okB_iff (p : Pm) : p.okB = true ↔ p.ok := decide_eq_true_iff
def ordOk (k n d v : Int) : Bool := decide ((k = 1 ∧ (1 ≤ d ∧ d ≤ 1000) ∧ (1 ≤ n ∧ n ≤ 1000) ∧ n ≤ 3 * d ∧ (1 ≤ v ∧ v ≤ 5000)) ∨ (k = 2 ∧ (1 ≤ v ∧ v ≤ 100) ∧ n = 0 ∧ d = 0) ∨ ((3 ≤ k ∧ k ≤ 6) ∧ n = 0 ∧ d = 0 ∧ v = 0))
theorem ordOk_iff (k n d v : Int) : ordOk k n d v = true ↔ OrdR k n d v := decide_eq_true_iff
theorem ok_yes {p : Pm} (h : p.ok) : p.okB = true := p.okB_iff.2 h
theorem ok_no {p : Pm} (h : ¬ p.ok) : p.okB = false := by
  cases e : p.okB
  · rfl
  · exact absurd (p.okB_iff.1 e) h
theorem or_yes {k n d v : Int} (h : OrdR k n d v) : ordOk k n d v = true := (ordOk_iff k n d v).2 h
theorem or_no {k n d v : Int} (h : ¬ OrdR k n d v) : ordOk k n d v = false := by
  cases e : ordOk k n d v
  · rfl
  · exact absurd ((ordOk_iff k n d v).1 e) h
/-- what an order makes of a pump -/
def Pm.take (p : Pm) (k n d v : Int) : Pm × Bool :=
  if p.okB = true ∧ ordOk k n d v = true then
    if k = 1 then (if p.s = 0 ∨ p.s = 2 then ({ p with s := 1, n := n, d := d, r := 0, l := v }, true) else (p, false))
    else if k = 2 then (if p.s = 0 ∨ p.s = 3 ∨ 0 < p.b then (p, false) else ({ p with b := v }, true))
    else if k = 3 then (if p.s = 0 ∨ p.s = 3 then (p, false) else ({ p with s := 3, k := p.s }, true))
    else if k = 4 then (if p.s = 3 then ({ p with s := p.k, k := 0 }, true) else (p, false))
    else if k = 6 then ({ p with s := 0, l := 0, b := 0, k := 0 }, true)
    else (p, false)
  else (p, false)
/-- it gives something -/
def Pm.runs (p : Pm) : Prop := p.ok ∧ (p.s = 1 ∨ p.s = 2)
def Pm.rate (p : Pm) : Int := (p.r + p.n) / p.d
def Pm.base (p : Pm) : Int := if p.s = 1 then min p.rate p.l else p.rate
def Pm.wants (p : Pm) : Int := if p.okB = true ∧ (p.s = 1 ∨ p.s = 2) then p.base + min p.b 3 else 0
/-- what a tick makes of a pump that runs, in which n were given -/
def Pm.giveR (p : Pm) (n : Int) : Pm :=
  let m := max (min n p.wants) 0
  let c := min m (min p.b 3)
  let q : Pm := { p with r := (p.r + p.n) % p.d, b := p.b - c, l := if p.s = 1 then p.l - (m - c) else p.l, g := min (p.g + m) 1000000000000 }
  if p.s = 1 ∧ q.l = 0 then { q with s := 2, n := 1, d := 50, r := 0 } else q
def Pm.give (p : Pm) (n : Int) : Pm := if p.okB = true ∧ (p.s = 1 ∨ p.s = 2) then p.giveR n else p
def newP : Pm := ⟨0, 0, 1, 0, 0, 0, 0, 0⟩
theorem new_ok : newP.ok := by unfold Pm.ok ratR newP; simp

theorem rate_bd {p : Pm} (h : p.ok) : 0 ≤ p.rate ∧ p.rate ≤ 3 := by
  obtain ⟨_, ⟨h1, h2, h3, h4, h5, h6⟩, h7, _⟩ := h
  unfold Pm.rate
  constructor
  · exact Int.ediv_nonneg (by omega) (by omega)
  · have : (p.r + p.n) / p.d < 4 := Int.ediv_lt_of_lt_mul (by omega) (by omega)
    omega
theorem rest_bd {p : Pm} (h : p.ok) : 0 ≤ (p.r + p.n) % p.d ∧ (p.r + p.n) % p.d ≤ p.d - 1 := by
  obtain ⟨_, ⟨h1, h2, h3, h4, h5, h6⟩, h7, _⟩ := h
  have a := Int.emod_nonneg (p.r + p.n) (show p.d ≠ 0 by omega)
  have b := Int.emod_lt_of_pos (p.r + p.n) (show 0 < p.d by omega)
  omega
theorem base_bd {p : Pm} (h : p.ok) : 0 ≤ p.base ∧ p.base ≤ 3 ∧ (p.s = 1 → p.base ≤ p.l) := by
  have h1 := rate_bd h
  obtain ⟨_, _, _, hl, _⟩ := h
  unfold Pm.base
  split <;> omega
theorem wants_bd (p : Pm) : 0 ≤ p.wants ∧ p.wants ≤ 6 := by
  unfold Pm.wants
  split
  · rename_i h
    have ho := p.okB_iff.1 h.1
    have h1 := base_bd ho
    obtain ⟨_, _, _, _, _, hb, _⟩ := ho
    omega
  · omega
theorem wants_run {p : Pm} (h : p.ok) (hs : p.s = 1 ∨ p.s = 2) : p.wants = p.base + min p.b 3 := by
  unfold Pm.wants
  rw [if_pos ⟨ok_yes h, hs⟩]
theorem giveR_ok {p : Pm} (h : p.ok) (hs : p.s = 1 ∨ p.s = 2) (n : Int) : (p.giveR n).ok := by
  have hr := rate_bd h
  have ht := rest_bd h
  have hb := base_bd h
  have hw := wants_run h hs
  have h' := h
  obtain ⟨h0, ⟨r1, r2, r3, r4, r5, r6⟩, h2, h3, h4, h5, h6, h7, h8⟩ := h'
  unfold Pm.giveR
  rw [hw]
  obtain ⟨m, hm⟩ : ∃ m, max (min n (p.base + min p.b 3)) 0 = m := ⟨_, rfl⟩
  obtain ⟨c, hc⟩ : ∃ c, min m (min p.b 3) = c := ⟨_, rfl⟩
  simp only [hm, hc]
  have m0 : 0 ≤ m ∧ m ≤ p.base + min p.b 3 := by omega
  have c0 : 0 ≤ c ∧ c ≤ p.b ∧ c ≤ m ∧ m - c ≤ p.base := by omega
  rcases hs with hs | hs
  · have hbl := hb.2.2 hs
    clear hb hw
    simp only [hs, if_true, true_and]
    by_cases hz : p.l - (m - c) = 0
    · rw [if_pos hz]
      unfold Pm.ok ratR
      simp only [hs] at *
      simp
      omega
    · rw [if_neg hz]
      unfold Pm.ok ratR
      simp only [hs] at *
      simp
      omega
  · have hne : ¬ ((2 : Int) = 1) := by decide
    simp only [hs, hne, if_false, false_and]
    unfold Pm.ok ratR
    simp only [hs] at *
    simp
    omega
theorem give_ok {p : Pm} (h : p.ok) (n : Int) : (p.give n).ok := by
  unfold Pm.give
  split
  · rename_i hh; exact giveR_ok h hh.2 n
  · exact h
theorem take_ok {p : Pm} (h : p.ok) (k n d v : Int) : (p.take k n d v).1.ok := by
  unfold Pm.take
  split
  · rename_i hh
    have ho := (ordOk_iff k n d v).1 hh.2
    have h' := h
    obtain ⟨h0, ⟨r1, r2, r3, r4, r5, r6⟩, h2, h3, h4, h5, h6, h7, h8⟩ := h'
    unfold OrdR at ho
    split
    · rename_i hk
      split
      · rename_i hs
        unfold Pm.ok ratR
        simp
        omega
      · exact h
    split
    · split
      · exact h
      · unfold Pm.ok ratR
        simp
        omega
    split
    · split
      · exact h
      · unfold Pm.ok ratR
        simp
        omega
    split
    · split
      · unfold Pm.ok ratR
        simp
        omega
      · exact h
    split
    · unfold Pm.ok ratR
      simp
      omega
    · exact h
  · exact h
theorem giveR_g (p : Pm) (n : Int) : (p.giveR n).g = min (p.g + max (min n p.wants) 0) 1000000000000 := by
  unfold Pm.giveR
  dsimp only
  repeat' split
  all_goals rfl
theorem give_given {p : Pm} (h : p.ok) (n : Int) : p.g ≤ (p.give n).g ∧ (p.give n).g ≤ p.g + p.wants := by
  have hw := wants_bd p
  have h' := h
  obtain ⟨h0, _, h2, h3, h4, h5, h6, h7, h8⟩ := h'
  unfold Pm.give
  split
  · rw [giveR_g]
    omega
  · omega
theorem give_more {p : Pm} (n : Int) : p.give p.wants = p.give (p.wants + 5) := by
  have hw := wants_bd p
  unfold Pm.give
  split
  · unfold Pm.giveR
    have e : max (min (p.wants + 5) p.wants) 0 = max (min p.wants p.wants) 0 := by omega
    rw [e]
  · rfl
theorem take_no {p : Pm} {k n d v : Int} (h : (p.take k n d v).2 = false) : (p.take k n d v).1 = p := by
  revert h
  unfold Pm.take
  repeat' split
  all_goals simp
end Go.Proofs.YtckeffccoghgeaaDoor
