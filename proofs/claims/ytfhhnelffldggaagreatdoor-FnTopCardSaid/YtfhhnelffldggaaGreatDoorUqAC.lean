/-
  The table of half sums, out of the row's list; a world that holds it, for the witness.
-/
import Derived.Test.YtfhhnelffldggaaGreatDoorUqAB
import Derived.Test.YtfhhnelffldggaaGreatDoorRows
import Derived.Lib.LaidTab
import Derived.LoopTactic
import Derived.Laws.IdiomStrings
import Derived.Deep.RegionWith
set_option maxRecDepth 100000
set_option maxHeartbeats 16000000
namespace Go.Proofs.YtfhhnelffldggaaGreatDoor.Q
open Go.ChangeShapes Go.WideShapes Go.ChangeAt Go.RowKit
theorem gTab : Tryz.prog.globalNamed "loop.example/g00200/impl.halfSums" = some 0 := by kernel_rfl
theorem gTabType : (Tryz.prog.globals[0]?).map (·.type) = some 204 := by kernel_rfl
theorem cellsTab : Tryz.prog.cellsOf 204 = 16 := by kernel_rfl
theorem cellsElem : Tryz.prog.cellsOf 197 = 1 := by kernel_rfl
def halfTab : List Int := [0, 1166650509, 2333301018, 3466261911, 3189058079, 4221339282, 889615109, 1888477064, 3558460437, 2442158232, 1594529039, 444807554, 1779230218, 797264519, 3776954128, 2761298845]
theorem half_datum : (Rows.laid_loop_example_g00200_impl_halfSums : DataW Unit) = Lib.tabData .u32 halfTab := by kernel_rfl
theorem half_at : ∀ r : Nat, r < 16 → halfTab.getD r 0 = (tab r : Nat) := by decide
theorem tab_of_is {W : World} (h : Lib.TabIs Tryz.prog W "loop.example/g00200/impl.halfSums" .u32 halfTab) : Tab W := by
  intro r hr
  rw [h.cell gTab r hr, half_at r hr]
theorem table_of {W : World} (h : laidMet Tryz.prog [("loop.example/g00200/impl.halfSums", Rows.laid_loop_example_g00200_impl_halfSums)] W) : Tab W :=
  tab_of_is (Lib.tabIs_of_head (rest := []) gTab gTabType Tryz.underlying204 Tryz.underlying197 cellsElem cellsTab (by rw [← half_datum]; exact h))
def setRow (cs : Array Value) : Obj → Obj
  | .cells _ t frozen => .cells cs t frozen
  | o => o
def layW (w : World) : World :=
  { w with heap := w.heap.modify 0 (setRow (halfTab.map (Value.int .u32)).toArray) }
end Go.Proofs.YtfhhnelffldggaaGreatDoor.Q
namespace Go.Proofs.YtfhhnelffldggaaGreatDoor
open Go.RowKit Go.PlainAid
set_option linter.unusedVariables false
set_option linter.unusedSimpArgs false
abbrev PB (s n d r l b g k : Int) : Obj := .cells #[.int .i64 s, .int .i64 n, .int .i64 d, .int .i64 r, .int .i64 l, .int .i64 b, .int .i64 g, .int .i64 k] 29
abbrev PV (s n d r l b g k : Int) : Value := .agg #[.int .i64 s, .int .i64 n, .int .i64 d, .int .i64 r, .int .i64 l, .int .i64 b, .int .i64 g, .int .i64 k]
theorem sA {α : Type} (l : List α) (i : Nat) (a : α) : l.toArray.setIfInBounds i a = (l.set i a).toArray := by simp
theorem sB {α : Type} (x y : α) (l : List α) : (x :: l).set 0 y = y :: l := rfl
theorem sC {α : Type} (x y : α) (l : List α) (n : Nat) : (x :: l).set (n + 1) y = x :: l.set n y := rfl
theorem sD {α : Type} (l : List α) (i : Nat) (h : i < l.toArray.size) : l.toArray[i] = l[i]'(by simpa using h) := by simp
theorem sE {α : Type} (x : α) (l : List α) (h : 0 < (x :: l).length) : (x :: l)[0] = x := rfl
theorem sF {α : Type} (x : α) (l : List α) (n : Nat) (h : n + 1 < (x :: l).length) : (x :: l)[n + 1] = l[n]'(by simpa using h) := rfl
theorem tkA {P : Program} {md : Region.Mode} {ops : Array Oper} {Q : Exit → Act → World → Prop} {S : World → Prop} {i : Nat} {oi : Oper} {v : Value} {fuel : Nat} {listed : Array Bool} {a : Act} {w : World} (hi : ops[i]? = some oi) (hy : YieldsIf P ops S oi v a)
    (h : wpAnyH P md ops Q S fuel (listed.setIfInBounds i true) (a.put oi.dst v) w) (hs : Region.noSelect ops = true := by kernel_rfl) (hf : Region.free md ops listed i = true := by kernel_rfl) (hr : (Region.ready md ops listed).contains i = true := by kernel_rfl)
    (hQ : ∀ c a w, Q (.panic c) (a.put oi.dst v) w → Q (.panic c) a w := by exact fun _ _ _ h => h) (hS : S w := by assumption) : wpAnyH P md ops Q S (fuel + 1) listed a w := wpAnyH_take hi hs hf hr hQ hy hS h
structure Pm where
  s : Int
  n : Int
  d : Int
  r : Int
  l : Int
  b : Int
  g : Int
  k : Int
def Pm.V (p : Pm) : Value := PV p.s p.n p.d p.r p.l p.b p.g p.k
def Pm.C (p : Pm) (t : TypeId) : Obj := .cells #[.int .i64 p.s, .int .i64 p.n, .int .i64 p.d, .int .i64 p.r, .int .i64 p.l, .int .i64 p.b, .int .i64 p.g, .int .i64 p.k] t
def ratR (n d r : Int) : Prop := 0 ≤ n ∧ n ≤ 1000000 ∧ 1 ≤ d ∧ d ≤ 1000000 ∧ 0 ≤ r ∧ r ≤ d - 1
def Pm.ok (p : Pm) : Prop := (0 ≤ p.s ∧ p.s ≤ 3) ∧ ratR p.n p.d p.r ∧ p.n ≤ 3 * p.d ∧ (0 ≤ p.l ∧ p.l ≤ 5000) ∧ (0 < p.l ↔ (p.s = 1 ∨ (p.s = 3 ∧ p.k = 1))) ∧ (0 ≤ p.b ∧ p.b ≤ 100) ∧ (0 ≤ p.g ∧ p.g ≤ 1000000000000) ∧ (0 ≤ p.k ∧ p.k ≤ 2) ∧ (p.s = 3 ∨ p.k = 0)
def Pm.okB (p : Pm) : Bool := decide ((0 ≤ p.s ∧ p.s ≤ 3) ∧ (0 ≤ p.n ∧ p.n ≤ 1000000 ∧ 1 ≤ p.d ∧ p.d ≤ 1000000 ∧ 0 ≤ p.r ∧ p.r ≤ p.d - 1) ∧ p.n ≤ 3 * p.d ∧ (0 ≤ p.l ∧ p.l ≤ 5000) ∧ (0 < p.l ↔ (p.s = 1 ∨ (p.s = 3 ∧ p.k = 1))) ∧ (0 ≤ p.b ∧ p.b ≤ 100) ∧ (0 ≤ p.g ∧ p.g ≤ 1000000000000) ∧ (0 ≤ p.k ∧ p.k ≤ 2) ∧ (p.s = 3 ∨ p.k = 0))
theorem Pm.okB_iff (p : Pm) : p.okB = true ↔ p.ok := decide_eq_true_iff
def ordOk (k n d v : Int) : Bool := decide ((k = 1 ∧ (1 ≤ d ∧ d ≤ 1000) ∧ (1 ≤ n ∧ n ≤ 1000) ∧ n ≤ 3 * d ∧ (1 ≤ v ∧ v ≤ 5000)) ∨ (k = 2 ∧ (1 ≤ v ∧ v ≤ 100) ∧ n = 0 ∧ d = 0) ∨ ((3 ≤ k ∧ k ≤ 6) ∧ n = 0 ∧ d = 0 ∧ v = 0))
theorem ordOk_iff (k n d v : Int) : ordOk k n d v = true ↔ OrdR k n d v := decide_eq_true_iff
theorem ok_yes {p : Pm} (h : p.ok) : p.okB = true := p.okB_iff.2 h
theorem ok_no {p : Pm} (h : ¬ p.ok) : p.okB = false := by
  cases e : p.okB
  · rfl
  · exact absurd (p.okB_iff.1 e) h
theorem or_yes {k n d v : Int} (h : OrdR k n d v) : ordOk k n d v = true := (ordOk_iff k n d v).2 h
theorem or_no {k n d v : Int} (h : ¬ OrdR k n d v) : ordOk k n d v = false := by
  cases e : ordOk k n d v
  · rfl
  · exact absurd ((ordOk_iff k n d v).1 e) h
def Pm.take (p : Pm) (k n d v : Int) : Pm × Bool :=
  if p.okB = true ∧ ordOk k n d v = true then
    if k = 1 then (if p.s = 0 ∨ p.s = 2 then ({ p with s := 1, n := n, d := d, r := 0, l := v }, true) else (p, false))
    else if k = 2 then (if p.s = 0 ∨ p.s = 3 ∨ 0 < p.b then (p, false) else ({ p with b := v }, true))
    else if k = 3 then (if p.s = 0 ∨ p.s = 3 then (p, false) else ({ p with s := 3, k := p.s }, true))
    else if k = 4 then (if p.s = 3 then ({ p with s := p.k, k := 0 }, true) else (p, false))
    else if k = 6 then ({ p with s := 0, l := 0, b := 0, k := 0 }, true)
    else (p, false)
  else (p, false)
def Pm.rate (p : Pm) : Int := (p.r + p.n) / p.d
def Pm.base (p : Pm) : Int := if p.s = 1 then min p.rate p.l else p.rate
def Pm.wants (p : Pm) : Int := if p.okB = true ∧ (p.s = 1 ∨ p.s = 2) then p.base + min p.b 3 else 0
def Pm.giveR (p : Pm) (n : Int) : Pm :=
  let m := max (min n p.wants) 0
  let c := min m (min p.b 3)
  let q : Pm := { p with r := (p.r + p.n) % p.d, b := p.b - c, l := if p.s = 1 then p.l - (m - c) else p.l, g := min (p.g + m) 1000000000000 }
  if p.s = 1 ∧ q.l = 0 then { q with s := 2, n := 1, d := 50, r := 0 } else q
def Pm.give (p : Pm) (n : Int) : Pm := if p.okB = true ∧ (p.s = 1 ∨ p.s = 2) then p.giveR n else p
def newP : Pm := ⟨0, 0, 1, 0, 0, 0, 0, 0⟩
theorem new_ok : newP.ok := by unfold Pm.ok ratR newP; simp
theorem rate_bd {p : Pm} (h : p.ok) : 0 ≤ p.rate ∧ p.rate ≤ 3 := by
  obtain ⟨_, ⟨h1, h2, h3, h4, h5, h6⟩, h7, _⟩ := h
  unfold Pm.rate
  constructor
  · exact Int.ediv_nonneg (by omega) (by omega)
  · have : (p.r + p.n) / p.d < 4 := Int.ediv_lt_of_lt_mul (by omega) (by omega)
    omega
theorem rest_bd {p : Pm} (h : p.ok) : 0 ≤ (p.r + p.n) % p.d ∧ (p.r + p.n) % p.d ≤ p.d - 1 := by
  obtain ⟨_, ⟨h1, h2, h3, h4, h5, h6⟩, h7, _⟩ := h
  have a := Int.emod_nonneg (p.r + p.n) (show p.d ≠ 0 by omega)
  have b := Int.emod_lt_of_pos (p.r + p.n) (show 0 < p.d by omega)
  omega
theorem base_bd {p : Pm} (h : p.ok) : 0 ≤ p.base ∧ p.base ≤ 3 ∧ (p.s = 1 → p.base ≤ p.l) := by
  have h1 := rate_bd h
  obtain ⟨_, _, _, hl, _⟩ := h
  unfold Pm.base
  split <;> omega
theorem wants_bd (p : Pm) : 0 ≤ p.wants ∧ p.wants ≤ 6 := by
  unfold Pm.wants
  split
  · rename_i h
    have ho := p.okB_iff.1 h.1
    have h1 := base_bd ho
    obtain ⟨_, _, _, _, _, hb, _⟩ := ho
    omega
  · omega
theorem wants_run {p : Pm} (h : p.ok) (hs : p.s = 1 ∨ p.s = 2) : p.wants = p.base + min p.b 3 := by
  unfold Pm.wants
  rw [if_pos ⟨ok_yes h, hs⟩]
theorem giveR_ok {p : Pm} (h : p.ok) (hs : p.s = 1 ∨ p.s = 2) (n : Int) : (p.giveR n).ok := by
  have hr := rate_bd h
  have ht := rest_bd h
  have hb := base_bd h
  have hw := wants_run h hs
  have h' := h
  obtain ⟨h0, ⟨r1, r2, r3, r4, r5, r6⟩, h2, h3, h4, h5, h6, h7, h8⟩ := h'
  unfold Pm.giveR
  rw [hw]
  obtain ⟨m, hm⟩ : ∃ m, max (min n (p.base + min p.b 3)) 0 = m := ⟨_, rfl⟩
  obtain ⟨c, hc⟩ : ∃ c, min m (min p.b 3) = c := ⟨_, rfl⟩
  simp only [hm, hc]
  have m0 : 0 ≤ m ∧ m ≤ p.base + min p.b 3 := by omega
  have c0 : 0 ≤ c ∧ c ≤ p.b ∧ c ≤ m ∧ m - c ≤ p.base := by omega
  rcases hs with hs | hs
  · have hbl := hb.2.2 hs
    clear hb hw
    simp only [hs, if_true, true_and]
    by_cases hz : p.l - (m - c) = 0
    · rw [if_pos hz]
      unfold Pm.ok ratR
      simp only [hs] at *
      simp
      omega
    · rw [if_neg hz]
      unfold Pm.ok ratR
      simp only [hs] at *
      simp
      omega
  · have hne : ¬ ((2 : Int) = 1) := by decide
    simp only [hs, hne, if_false, false_and]
    unfold Pm.ok ratR
    simp only [hs] at *
    simp
    omega
theorem give_ok {p : Pm} (h : p.ok) (n : Int) : (p.give n).ok := by
  unfold Pm.give
  split
  · rename_i hh; exact giveR_ok h hh.2 n
  · exact h
theorem take_ok {p : Pm} (h : p.ok) (k n d v : Int) : (p.take k n d v).1.ok := by
  unfold Pm.take
  split
  · rename_i hh
    have ho := (ordOk_iff k n d v).1 hh.2
    have h' := h
    obtain ⟨h0, ⟨r1, r2, r3, r4, r5, r6⟩, h2, h3, h4, h5, h6, h7, h8⟩ := h'
    unfold OrdR at ho
    split
    · rename_i hk
      split
      · rename_i hs
        unfold Pm.ok ratR
        simp
        omega
      · exact h
    split
    · split
      · exact h
      · unfold Pm.ok ratR
        simp
        omega
    split
    · split
      · exact h
      · unfold Pm.ok ratR
        simp
        omega
    split
    · split
      · unfold Pm.ok ratR
        simp
        omega
      · exact h
    split
    · unfold Pm.ok ratR
      simp
      omega
    · exact h
  · exact h
theorem giveR_g (p : Pm) (n : Int) : (p.giveR n).g = min (p.g + max (min n p.wants) 0) 1000000000000 := by
  unfold Pm.giveR
  dsimp only
  repeat' split
  all_goals rfl
structure Mn where
  a : Int
  b : Bool
  n : Int
  d : Int
  s : List UInt8
def figB (x : UInt8) : Bool := decide (48 ≤ (x.toNat : Int) ∧ (x.toNat : Int) ≤ 57)
def okM (m : Mn) : Bool := decide ((1 ≤ m.a ∧ m.a ≤ 4) ∧ (0 ≤ m.n ∧ m.n ≤ 9999) ∧ (0 ≤ m.d ∧ m.d ≤ 9999) ∧ m.s.length ≤ 4) && m.s.all figB && (decide (m.a ≠ 1) || (decide (m.s = []) && !m.b && decide (m.n = 0) && decide (m.d = 0)))
def newM : Mn := ⟨1, false, 0, 0, []⟩
def numF (s : List UInt8) : Int := s.foldl (fun a c => 10 * a + (c.toNat : Int) - 48) 0
structure Pr where
  m : Mn
  k : Int
  n : Int
  d : Int
  v : Int
  t : Bool
def noP (m : Mn) : Pr := ⟨m, 0, 0, 0, 0, false⟩
def topM (m : Mn) (key : Int) : Pr :=
  if key = 98 then noP ⟨2, false, 0, 0, []⟩ else if key = 111 then noP ⟨4, true, 0, 0, []⟩ else if key = 112 then ⟨m, 3, 0, 0, 0, true⟩ else if key = 103 then ⟨m, 4, 0, 0, 0, true⟩
  else if key = 115 then ⟨m, 5, 0, 0, 0, true⟩ else if key = 120 then ⟨m, 6, 0, 0, 0, true⟩ else noP m
def endM (m : Mn) : Pr :=
  if m.b = true then (if 1 ≤ numF m.s ∧ numF m.s ≤ 100 then ⟨newM, 2, 0, 0, numF m.s, true⟩ else noP newM)
  else if (1 ≤ m.d ∧ m.d ≤ 1000) ∧ (1 ≤ m.n ∧ m.n ≤ 1000) ∧ m.n ≤ 3 * m.d ∧ (1 ≤ numF m.s ∧ numF m.s ≤ 5000) then ⟨newM, 1, m.n, m.d, numF m.s, true⟩ else noP newM
def pressM (m : Mn) (key : Int) : Pr :=
  if okM m = false then noP m
  else if m.a = 1 then topM m key
  else if 48 ≤ key ∧ key ≤ 57 then (if m.s.length < 4 then noP ⟨m.a, m.b, m.n, m.d, m.s ++ [UInt8.ofNat key.toNat]⟩ else noP m)
  else if key = 99 then noP newM
  else if key ≠ 10 then noP m
  else if m.a = 2 then noP ⟨3, m.b, numF m.s, m.d, []⟩
  else if m.a = 3 then noP ⟨4, m.b, m.n, numF m.s, []⟩
  else endM m
abbrev Od4 := Int × Int × Int × Int
def allM : Mn → List UInt8 → Mn × List Od4
  | m, [] => (m, [])
  | m, x :: k => ((allM (pressM m (x.toNat : Int)).m k).1, if (pressM m (x.toNat : Int)).t = true then ((pressM m (x.toNat : Int)).k, (pressM m (x.toNat : Int)).n, (pressM m (x.toNat : Int)).d, (pressM m (x.toNat : Int)).v) :: (allM (pressM m (x.toNat : Int)).m k).2 else (allM (pressM m (x.toNat : Int)).m k).2)
theorem allM_cons (m : Mn) (x : UInt8) (k : List UInt8) : allM m (x :: k) = ((allM (pressM m (x.toNat : Int)).m k).1, if (pressM m (x.toNat : Int)).t = true then ((pressM m (x.toNat : Int)).k, (pressM m (x.toNat : Int)).n, (pressM m (x.toNat : Int)).d, (pressM m (x.toNat : Int)).v) :: (allM (pressM m (x.toNat : Int)).m k).2 else (allM (pressM m (x.toNat : Int)).m k).2) := rfl
theorem allM_app : ∀ (x y : List UInt8) (m : Mn), allM m (x ++ y) = ((allM (allM m x).1 y).1, (allM m x).2 ++ (allM (allM m x).1 y).2)
  | [], y, m => by simp [allM]
  | c :: x, y, m => by
    rw [List.cons_append, allM_cons, allM_app x y, allM_cons m c x]
    by_cases h : (pressM m (c.toNat : Int)).t = true
    · simp only [h, if_true, List.cons_append]
    · simp only [if_neg h]
theorem okM_iff (m : Mn) : okM m = true ↔ ((1 ≤ m.a ∧ m.a ≤ 4) ∧ (0 ≤ m.n ∧ m.n ≤ 9999) ∧ (0 ≤ m.d ∧ m.d ≤ 9999) ∧ m.s.length ≤ 4) ∧ (∀ x ∈ m.s, figB x = true) ∧ (m.a = 1 → m.s = [] ∧ m.b = false ∧ m.n = 0 ∧ m.d = 0) := by
  unfold okM
  simp only [Bool.and_eq_true, Bool.or_eq_true, decide_eq_true_eq, List.all_eq_true, Bool.not_eq_true']
  constructor
  · rintro ⟨⟨h1, h2⟩, h3⟩
    exact ⟨h1, h2, fun e => by rcases h3 with h3 | h3; exact absurd e h3; exact ⟨h3.1.1.1, h3.1.1.2, h3.1.2, h3.2⟩⟩
  · rintro ⟨h1, h2, h3⟩
    refine ⟨⟨h1, h2⟩, ?_⟩
    by_cases e : m.a = 1
    · exact Or.inr ⟨⟨⟨(h3 e).1, (h3 e).2.1⟩, (h3 e).2.2.1⟩, (h3 e).2.2.2⟩
    · exact Or.inl e
theorem newM_ok : okM newM = true := by decide
theorem fold_bd : ∀ (s : List UInt8) (a : Int) (K : Nat), (∀ x ∈ s, figB x = true) → 0 ≤ a → a ≤ 10 ^ K - 1 → 0 ≤ s.foldl (fun a c => 10 * a + (c.toNat : Int) - 48) a ∧ s.foldl (fun a c => 10 * a + (c.toNat : Int) - 48) a ≤ 10 ^ (K + s.length) - 1
  | [], a, K, _, h0, h1 => ⟨h0, h1⟩
  | x :: s, a, K, hf, h0, h1 => by
    have hx := hf x (List.mem_cons_self ..)
    unfold figB at hx
    have hx := of_decide_eq_true hx
    have h2 : (10 : Int) ^ (K + 1) = 10 ^ K * 10 := Int.pow_succ _ _
    have := fold_bd s (10 * a + (x.toNat : Int) - 48) (K + 1) (fun y hy => hf y (List.mem_cons_of_mem _ hy)) (by omega) (by omega)
    rw [List.foldl_cons, List.length_cons, show K + (s.length + 1) = K + 1 + s.length by omega]
    exact this
theorem numF_bd {s : List UInt8} (hf : ∀ x ∈ s, figB x = true) (hl : s.length ≤ 4) : 0 ≤ numF s ∧ numF s ≤ 9999 := by
  have h := fold_bd s 0 0 hf (by omega) (by decide)
  rw [Nat.zero_add] at h
  have h2 : (10 : Int) ^ s.length ≤ 10000 := by
    have : s.length = 0 ∨ s.length = 1 ∨ s.length = 2 ∨ s.length = 3 ∨ s.length = 4 := by omega
    rcases this with e | e | e | e | e <;> rw [e] <;> decide
  unfold numF
  omega
theorem figB_key {key : Int} (h : 48 ≤ key ∧ key ≤ 57) : figB (UInt8.ofNat key.toNat) = true := by
  unfold figB
  have : (UInt8.ofNat key.toNat).toNat = key.toNat := by simp; omega
  rw [this]
  exact decide_eq_true (by omega)
theorem topM_ok {m : Mn} (h : okM m = true) (key : Int) : okM (topM m key).m = true := by
  unfold topM noP
  repeat' split
  all_goals first | exact h | decide
theorem endM_ok (m : Mn) : okM (endM m).m = true := by
  unfold endM noP
  repeat' split
  all_goals exact newM_ok
theorem pressM_ok {m : Mn} (h : okM m = true) (key : Int) : okM (pressM m key).m = true := by
  have h' := (okM_iff m).1 h
  have hn := numF_bd h'.2.1 h'.1.2.2.2
  unfold pressM
  rw [if_neg (by rw [h]; decide)]
  by_cases h1 : m.a = 1
  · rw [if_pos h1]; exact topM_ok h key
  rw [if_neg h1]
  by_cases h2 : 48 ≤ key ∧ key ≤ 57
  · rw [if_pos h2]
    by_cases h3 : m.s.length < 4
    · rw [if_pos h3]
      refine (okM_iff _).2 ⟨⟨h'.1.1, h'.1.2.1, h'.1.2.2.1, ?_⟩, fun x hx => ?_, fun e => absurd e h1⟩
      · simp only [noP, List.length_append, List.length_cons, List.length_nil]; omega
      · rcases List.mem_append.1 hx with hx | hx
        · exact h'.2.1 x hx
        · rw [List.mem_singleton.1 hx]; exact figB_key h2
    · rw [if_neg h3]; exact h
  rw [if_neg h2]
  by_cases h3 : key = 99
  · rw [if_pos h3]; exact newM_ok
  rw [if_neg h3]
  by_cases h4 : key ≠ 10
  · rw [if_pos h4]; exact h
  rw [if_neg h4]
  by_cases h5 : m.a = 2
  · rw [if_pos h5]
    exact (okM_iff _).2 ⟨⟨by simp [noP], hn, h'.1.2.2.1, by simp [noP]⟩, fun x hx => by simp [noP] at hx, fun e => by simp [noP] at e⟩
  rw [if_neg h5]
  by_cases h6 : m.a = 3
  · rw [if_pos h6]
    exact (okM_iff _).2 ⟨⟨by simp [noP], h'.1.2.1, hn, by simp [noP]⟩, fun x hx => by simp [noP] at hx, fun e => by simp [noP] at e⟩
  rw [if_neg h6]
  exact endM_ok m
def PrR (p : Pr) : Prop := (p.t = true → OrdR p.k p.n p.d p.v) ∧ (p.t = false → p.k = 0 ∧ p.n = 0 ∧ p.d = 0 ∧ p.v = 0)
theorem noP_r (m : Mn) : PrR (noP m) := ⟨fun e => (by cases e), fun _ => ⟨rfl, rfl, rfl, rfl⟩⟩
theorem topM_r (m : Mn) (key : Int) : PrR (topM m key) := by
  unfold topM
  repeat' split
  all_goals first | exact noP_r _ | exact ⟨fun _ => (by unfold OrdR; simp), fun e => (by cases e)⟩
theorem endM_r (m : Mn) : PrR (endM m) := by
  unfold endM
  by_cases hb : m.b = true
  · rw [if_pos hb]
    by_cases h : 1 ≤ numF m.s ∧ numF m.s ≤ 100
    · rw [if_pos h]; exact ⟨fun _ => (by unfold OrdR; simp; exact h), fun e => (by cases e)⟩
    · rw [if_neg h]; exact noP_r _
  · rw [if_neg hb]
    by_cases h : (1 ≤ m.d ∧ m.d ≤ 1000) ∧ (1 ≤ m.n ∧ m.n ≤ 1000) ∧ m.n ≤ 3 * m.d ∧ (1 ≤ numF m.s ∧ numF m.s ≤ 5000)
    · rw [if_pos h]; exact ⟨fun _ => (by unfold OrdR; simp; omega), fun e => (by cases e)⟩
    · rw [if_neg h]; exact noP_r _
theorem pressM_r (m : Mn) (key : Int) : PrR (pressM m key) := by
  unfold pressM
  repeat' split
  all_goals first | exact noP_r _ | exact topM_r _ _ | exact endM_r _
theorem allM_r : ∀ (k : List UInt8) (m : Mn), ∀ o ∈ (allM m k).2, OrdR o.1 o.2.1 o.2.2.1 o.2.2.2
  | [], m, o, h => by cases h
  | x :: k, m, o, h => by
    unfold allM at h
    by_cases ht : (pressM m (x.toNat : Int)).t = true
    · simp only [ht, if_true] at h
      rcases List.mem_cons.1 h with rfl | h
      · exact (pressM_r m _).1 ht
      · exact allM_r k _ o h
    · simp only [if_neg ht] at h
      exact allM_r k _ o h
theorem allM_len : ∀ (k : List UInt8) (m : Mn), (allM m k).2.length ≤ k.length
  | [], m => Nat.le_refl _
  | x :: k, m => by
    have := allM_len k (pressM m (x.toNat : Int)).m
    unfold allM
    by_cases ht : (pressM m (x.toNat : Int)).t = true
    · simp only [ht, if_true, List.length_cons]; omega
    · simp only [if_neg ht, List.length_cons]; omega
theorem allM_take {k : List UInt8} {j : Nat} (h : j < k.length) (m : Mn) : allM m (k.take (j + 1)) = ((pressM (allM m (k.take j)).1 (k[j].toNat : Int)).m, if (pressM (allM m (k.take j)).1 (k[j].toNat : Int)).t = true then (allM m (k.take j)).2 ++ [((pressM (allM m (k.take j)).1 (k[j].toNat : Int)).k, (pressM (allM m (k.take j)).1 (k[j].toNat : Int)).n, (pressM (allM m (k.take j)).1 (k[j].toNat : Int)).d, (pressM (allM m (k.take j)).1 (k[j].toNat : Int)).v)] else (allM m (k.take j)).2) := by
  rw [← List.take_append_getElem h, allM_app]
  simp only [allM]
  by_cases ht : (pressM (allM m (k.take j)).1 (k[j].toNat : Int)).t = true
  · simp only [ht, if_true]
  · simp only [if_neg ht, List.append_nil]
end Go.Proofs.YtfhhnelffldggaaGreatDoor
namespace Go.Proofs.YtfhhnelffldggaaGreatDoor
abbrev dR (p : Pm) (g : Value) (al : Int) (m : Mn) (t : Value) (rf : Int) : Array Value := #[.int .i64 p.s, .int .i64 p.n, .int .i64 p.d, .int .i64 p.r, .int .i64 p.l, .int .i64 p.b, .int .i64 p.g, .int .i64 p.k, g, .int .i64 al, .int .i64 m.a, .bool m.b, .int .i64 m.n, .int .i64 m.d, .string ⟨m.s.toArray⟩, t, .int .i64 rf]
abbrev dO (p : Pm) (g : Value) (al : Int) (m : Mn) (t : Value) (rf : Int) : Obj := .cells (dR p g al m t rf) 37
abbrev dY : Array Value := #[.int .i64 0, .int .i64 0, .int .i64 0, .int .i64 0, .int .i64 0, .int .i64 0, .int .i64 0, .int .i64 0, .slice none 0 0, .int .i64 0, .int .i64 0, .bool false, .int .i64 0, .int .i64 0, .string ⟨#[]⟩, .slice none 0 0, .int .i64 0]
abbrev dZ : Obj := .cells dY 37
end Go.Proofs.YtfhhnelffldggaaGreatDoor
namespace Go.Proofs.YtfhhnelffldggaaGreatDoor.V
open Go.RowKit Plain
set_option linter.unusedVariables false
def bytesV (l : List UInt8) : List Value := l.map (fun b => Value.int .u8 (b.toNat : Int))
theorem info5 : (Tryz.prog.info? 5).map (fun i => (i.zero, i.size, i.bytes)) = some (some (.int .u8 0), 1, 1) := by kernel_rfl
theorem own_empty (w : World) : (w.alloc (.cells #[] 5)).ownsRow w.heap.size 5 1 (.slice (some ⟨w.heap.size, 0, none⟩) 0 0) 0 (bytesV []) :=
  ⟨rfl, Or.inr ⟨_, 0, #[], rfl, Nat.le_refl _, by show (w.heap.push _)[w.heap.size]? = _; simp, Nat.le_refl _, by decide, rfl, rfl⟩⟩
theorem one_cell (wr : World) (x : Value) (a : Addr) (ha : a = ⟨wr.heap.size, 0, none⟩) : ∀ j u, [x][j]? = some u → (wr.alloc (.cells #[x] 5)).cell? (a.add j) = some u := by
  intro j u hj
  subst ha
  match j, hj with
  | 0, hj => simp at hj; subst hj; simp [Addr.add]
theorem step_big {m n : Nat} {xs : List UInt8} (h : 127 < m) (H : xs ++ vt m = vt n) : (xs ++ [UInt8.ofNat (m % 128 + 128)]) ++ vt (m / 128) = vt n := by
  rw [← H, vt_big h]; simp
theorem own_string {wr : World} {B : Nat} {v : Value} {xs : List UInt8} (h : wr.ownsRow B 5 1 v xs.length (bytesV xs)) (h0 : 0 < xs.length) :
    ∃ g cap, v = .slice (some ⟨g, 0, none⟩) xs.length cap ∧ (convert 22 9 v).run Tryz.prog wr = .ok (.string ⟨xs.toArray⟩) wr := by
  have h' := h
  rcases h.2 with ⟨rfl, e⟩ | ⟨g, cap, cur, rfl, hg, hh, hnc, hcp, hcs, htake⟩
  · omega
  · refine ⟨g, cap, rfl, run_convert_bytes_back (P := Tryz.prog) wr 22 9 5 ⟨g, 0, none⟩ cap xs Tryz.underlying22 Tryz.underlying5 Tryz.underlying9 fun j hj => ?_⟩
    rw [Addr.add_lit, Nat.zero_add, h'.cellAt j (by omega)]
    simp [bytesV, hj]
theorem own_ge {wr : World} {B n : Nat} {v : Value} {xs : List Value} (h : wr.ownsRow B 5 1 v n xs) : ∀ k, v.ownBlock = some k → B ≤ k := by
  intro k hk
  rcases h.2 with ⟨rfl, e⟩ | ⟨g, cap, cur, rfl, hg, _⟩
  · simp [Value.ownBlock] at hk
  · simp [Value.ownBlock] at hk; omega
theorem rel_step {w wr w1 : World} {v v' x : Value} {xs : List UInt8} (b : UInt8) (hx : x = .int .u8 (b.toNat : Int)) (hnx : Below w.heap.size w wr) (hown : wr.ownsRow w.heap.size 5 1 v xs.length (bytesV xs))
    (hown' : w1.ownsRow w.heap.size 5 1 v' (xs.length + 1) (bytesV xs ++ [x])) (hgrow : (wr.alloc (.cells #[x] 5)).grownBy w1 v.ownBlock) :
    w1.ownsRow w.heap.size 5 1 v' (xs ++ [b]).length (bytesV (xs ++ [b])) ∧ Below w.heap.size w w1 := by
  refine ⟨?_, (hnx.alloc hnx.size _).grown hgrow (by have := hnx.size; simp; omega) (own_ge hown)⟩
  subst hx
  simpa [bytesV] using hown'
theorem var22 (n : Nat) (hn : n ≤ 1000000000) (w : World) :
    Calls Tryz.prog 160 #[.int .i64 n] w fun e w' => e = .returned (.string ⟨(vt n).toArray⟩) ∧ Below w.heap.size w w' := by
  obtain ⟨i0, hi, hz0, hz1, hz2⟩ := info_parts info5
  have how := own_empty w
  go_enter Tryz.func160, Tryz.ntmps160
  go_wp2
  go_loopw [0, 3] (fun nv v wr => ∃ (m : Nat) (xs : List UInt8), nv = .int .i64 m ∧ m ≤ 1000000000 ∧ xs.length + m ≤ 1000000000 ∧ Hid (xs ++ vt m = vt n) ∧ wr.ownsRow w.heap.size 5 1 v xs.length (bytesV xs) ∧ Below w.heap.size w wr) (fun nv _ _ => (intOf nv).toNat)
  case atStart => exact ⟨n, [], rfl, hn, by simp; omega, (show Hid _ from by simp [Hid]), how, (Below.refl _ _).alloc (Nat.le_refl _) _⟩
  case round =>
    obtain ⟨m, xs, rfl, hm, hx, HV, hown, hnx⟩ := hrel
    have hsz := hnx.size
    by_cases hlt : 127 < m
    · go_wp2_with (at_builtin; refine wpList_append_own _ rfl _ _ 22 rfl w.heap.size 5 i0 (.int .u8 0) 1 1 Tryz.underlying22 hi hz0 hz1 hz2 rfl (by decide) _ _ _ rfl (hown.alloc _) ⟨wr.heap.size, 0, none⟩ 1 1 [.int .u8 ((m : Int) % 128 + 128)] rfl rfl ?c1 ?c2 ?c3 ?c4 ?c5 ?_)
      case c1 => exact one_cell wr _ _ rfl
      case c2 => intro u hu; simp at hu; subst hu; rfl
      case c3 => unfold maxLen; omega
      case c4 => omega
      case c5 => simp; omega
      intro v' w1 hown' hgrow _
      have R := rel_step (UInt8.ofNat (m % 128 + 128)) (by rw [toNat_big]; congr 1) hnx hown hown' hgrow
      clear hown' hgrow hown how
      go_wp2
      go_roundw
      case rel => exact ⟨m / 128, xs ++ [UInt8.ofNat (m % 128 + 128)], by go_num, by omega, by simp; omega, step_big hlt HV.out, R.1, R.2⟩
      case measure => simp [intOf]; omega
    · go_wp2_with (at_builtin; refine wpList_append_own _ rfl _ _ 22 rfl w.heap.size 5 i0 (.int .u8 0) 1 1 Tryz.underlying22 hi hz0 hz1 hz2 rfl (by decide) _ _ _ rfl (hown.alloc _) ⟨wr.heap.size, 0, none⟩ 1 1 [.int .u8 (m : Int)] rfl rfl ?c1 ?c2 ?c3 ?c4 ?c5 ?_)
      case c1 => exact one_cell wr _ _ rfl
      case c2 => intro u hu; simp at hu; subst hu; rfl
      case c3 => unfold maxLen; omega
      case c4 => omega
      case c5 => simp; omega
      intro v' w1 hown' hgrow _
      have R := rel_step (UInt8.ofNat m) (by rw [toNat_small hlt]) hnx hown hown' hgrow
      rw [show xs ++ [UInt8.ofNat m] = vt n by rw [← vt_small hlt]; exact HV.out] at R
      obtain ⟨g, cap, hv', hcv⟩ := own_string R.1 (vt_pos n)
      have hb := R.2
      clear hown' hgrow hown how R HV
      subst hv'
      go_wp2
      go_ret
      exact ⟨rfl, hb⟩
theorem var10 (n : Nat) (hn : n ≤ 1000000000) (w : World) :
    Calls Tryz.prog 192 #[.int .i64 n] w fun e w' => e = .returned (.tuple #[.string ⟨(vt n).toArray⟩, .bool true]) ∧ Below w.heap.size w w' := by
  obtain ⟨i0, hi, hz0, hz1, hz2⟩ := info_parts info5
  go_enter Tryz.func192, Tryz.ntmps192
  go_wp2
  go_loopw [0, 4] (fun nv v wr => ∃ (m : Nat) (xs : List UInt8), nv = .int .i64 m ∧ m ≤ 1000000000 ∧ xs.length + m ≤ 1000000000 ∧ Hid (xs ++ vt m = vt n) ∧ wr.ownsRow w.heap.size 5 1 v xs.length (bytesV xs) ∧ Below w.heap.size w wr) (fun nv _ _ => (intOf nv).toNat)
  case atStart => exact ⟨n, [], rfl, hn, by simp; omega, (show Hid _ from by simp [Hid]), World.ownsRow_nil _ _ _ _, Below.refl _ _⟩
  case round =>
    obtain ⟨m, xs, rfl, hm, hx, HV, hown, hnx⟩ := hrel
    have hsz := hnx.size
    by_cases hlt : 127 < m
    · go_wp2_with (at_builtin; refine wpList_append_own _ rfl _ _ 22 rfl w.heap.size 5 i0 (.int .u8 0) 1 1 Tryz.underlying22 hi hz0 hz1 hz2 rfl (by decide) _ _ _ rfl (hown.alloc _) ⟨wr.heap.size, 0, none⟩ 1 1 [.int .u8 ((m : Int) % 128 + 128)] rfl rfl ?c1 ?c2 ?c3 ?c4 ?c5 ?_)
      case c1 => exact one_cell wr _ _ rfl
      case c2 => intro u hu; simp at hu; subst hu; rfl
      case c3 => unfold maxLen; omega
      case c4 => omega
      case c5 => simp; omega
      intro v' w1 hown' hgrow _
      have R := rel_step (UInt8.ofNat (m % 128 + 128)) (by rw [toNat_big]; congr 1) hnx hown hown' hgrow
      clear hown' hgrow hown
      go_wp2
      go_roundw
      case rel => exact ⟨m / 128, xs ++ [UInt8.ofNat (m % 128 + 128)], by go_num, by omega, by simp; omega, step_big hlt HV.out, R.1, R.2⟩
      case measure => simp [intOf]; omega
    · go_wp2_with (at_builtin; refine wpList_append_own _ rfl _ _ 22 rfl w.heap.size 5 i0 (.int .u8 0) 1 1 Tryz.underlying22 hi hz0 hz1 hz2 rfl (by decide) _ _ _ rfl (hown.alloc _) ⟨wr.heap.size, 0, none⟩ 1 1 [.int .u8 (m : Int)] rfl rfl ?c1 ?c2 ?c3 ?c4 ?c5 ?_)
      case c1 => exact one_cell wr _ _ rfl
      case c2 => intro u hu; simp at hu; subst hu; rfl
      case c3 => unfold maxLen; omega
      case c4 => omega
      case c5 => simp; omega
      intro v' w1 hown' hgrow _
      have R := rel_step (UInt8.ofNat m) (by rw [toNat_small hlt]) hnx hown hown' hgrow
      rw [show xs ++ [UInt8.ofNat m] = vt n by rw [← vt_small hlt]; exact HV.out] at R
      obtain ⟨g, cap, hv', hcv⟩ := own_string R.1 (vt_pos n)
      have hb := R.2
      clear hown' hgrow hown R HV
      subst hv'
      go_wp2
      go_ret2
      exact ⟨rfl, hb⟩
theorem no10 (n : Int) (h : n < 0 ∨ 1000000000 < n) (h1 : -9223372036854775808 ≤ n) (h2 : n ≤ 9223372036854775807) (w : World) :
    Calls Tryz.prog 192 #[.int .i64 n] w fun e w' => e = .returned (.tuple #[.string ⟨#[]⟩, .bool false]) ∧ Below w.heap.size w w' := by
  rcases h with h | h
  all_goals
    go_enter Tryz.func192, Tryz.ntmps192
    go_wp2
    go_ret2
    exact ⟨rfl, Below.refl _ _⟩
theorem in21 (x a b : Int) (w : World) :
    Calls Tryz.prog 97 #[.int .i64 x, .int .i64 a, .int .i64 b] w fun e w' => e = .returned (.bool (decide (a ≤ x ∧ x ≤ b))) ∧ w' = w := by
  by_cases h1 : a ≤ x
  · by_cases h2 : x ≤ b
    · rw [decide_eq_true ⟨h1, h2⟩]
      go_enter Tryz.func97, Tryz.ntmps97
      go_wp2
      go_ret
      exact ⟨by simp, rfl⟩
    · rw [decide_eq_false (by omega)]
      go_enter Tryz.func97, Tryz.ntmps97
      go_wp2
      go_ret
      exact ⟨by simp, rfl⟩
  · rw [decide_eq_false (by omega)]
    go_enter Tryz.func97, Tryz.ntmps97
    go_wp2
    go_ret
    exact ⟨rfl, rfl⟩
end Go.Proofs.YtfhhnelffldggaaGreatDoor.V
namespace Go.Proofs.YtfhhnelffldggaaGreatDoor.V
open Go.RowKit Plain Go.PlainAid
set_option linter.unusedVariables false
def fin (s : ByteArray) (a b : Nat) (N : Int) : Option (Int × Nat) := if N ≤ 1000000000 ∧ vt N.toNat = (s.extract a b).toList then some (N, b) else none
def rvF (s : ByteArray) (a : Nat) : Nat → Nat → Int → Int → Option (Int × Nat)
  | 0, _, _, _ => none
  | f + 1, k, N, S => if k < s.size then (if bt s k < 128 then fin s a (k + 1) (N + bt s k % 128 * S) else rvF s a f (k + 1) (N + bt s k % 128 * S) (S * 128)) else none
def rv (s : ByteArray) (a : Int) : Option (Int × Nat) := if 0 ≤ a ∧ a ≤ s.size then rvF s a.toNat 5 a.toNat 0 1 else none
def enc3 : Option (Int × Nat) → Value
  | none => .tuple #[.int .i64 0, .int .i64 0, .bool false]
  | some (N, b) => .tuple #[.int .i64 N, .int .i64 b, .bool true]
theorem fin_some {s : ByteArray} {a b : Nat} {N M : Int} {c : Nat} (h0 : 0 ≤ N) (h : fin s a b N = some (M, c)) : 0 ≤ M ∧ M ≤ 1000000000 ∧ c = b := by
  unfold fin at h
  split at h
  · simp at h; omega
  · simp at h
theorem rvF_some {s : ByteArray} {a : Nat} : ∀ (f k : Nat) (N S : Int) {M : Int} {c : Nat}, 0 ≤ N → 0 ≤ S → rvF s a f k N S = some (M, c) → 0 ≤ M ∧ M ≤ 1000000000 ∧ k < c ∧ c ≤ s.size
  | 0, k, N, S, M, c, _, _, h => by simp [rvF] at h
  | f + 1, k, N, S, M, c, h0, hS, h => by
    unfold rvF at h
    have hp : 0 ≤ bt s k % 128 * S := Int.mul_nonneg (by omega) hS
    split at h
    · split at h
      · have := fin_some (by omega) h; omega
      · have := rvF_some f (k + 1) _ _ (by omega) (by omega) h; omega
    · simp at h
theorem rv_some {s : ByteArray} {a M : Int} {c : Nat} (h : rv s a = some (M, c)) : 0 ≤ M ∧ M ≤ 1000000000 ∧ c ≤ s.size := by
  unfold rv at h
  split at h
  · have := rvF_some 5 a.toNat 0 1 (by omega) (by omega) h; omega
  · simp at h
def sc : Nat → Int
  | 0 => 1
  | j + 1 => sc j * 128
theorem sc_pos : ∀ j, 1 ≤ sc j
  | 0 => by simp [sc]
  | j + 1 => by have := sc_pos j; simp only [sc]; omega
theorem sc_le : ∀ j, j < 5 → sc j ≤ 268435456
  | 0, _ => by decide
  | 1, _ => by decide
  | 2, _ => by decide
  | 3, _ => by decide
  | 4, _ => by decide
  | j + 5, h => by omega
theorem sc_five : sc 5 = 34359738368 := by decide
theorem prod_bd (b S : Int) (hS : 1 ≤ S) : 0 ≤ b % 128 * S ∧ b % 128 * S ≤ 127 * S :=
  ⟨Int.mul_nonneg (by omega) (by omega), Int.mul_le_mul_of_nonneg_right (by omega) (by omega)⟩
theorem fin_yes {s : ByteArray} {a b : Nat} {N : Int} (h : N ≤ 1000000000) (e : (vt N.toNat == (s.extract a b).toList) = true) : fin s a b N = some (N, b) := by
  unfold fin; rw [if_pos ⟨h, by simpa using e⟩]
theorem fin_no {s : ByteArray} {a b : Nat} {N : Int} (e : (vt N.toNat == (s.extract a b).toList) = false) : fin s a b N = none := by
  unfold fin; rw [if_neg (fun h => by rw [h.2] at e; simp at e)]
theorem fin_big {s : ByteArray} {a b : Nat} {N : Int} (h : ¬ N ≤ 1000000000) : fin s a b N = none := by
  unfold fin; rw [if_neg (fun h' => h h'.1)]
theorem exact23 (N : Int) (s : ByteArray) (a b : Nat) (hs : s.size ≤ 1048576) (hab : a ≤ b) (hb : b ≤ s.size) (h0 : 0 ≤ N) (hN : N ≤ 9223372036854775807) (w : World) :
    Calls Tryz.prog 190 #[.int .i64 N, .string s, .int .i64 a, .int .i64 b] w fun e w' => e = .returned (enc3 (fin s a b N)) ∧ Below w.heap.size w w' := by
  by_cases hle : N ≤ 1000000000
  · obtain ⟨n, rfl⟩ := Int.eq_ofNat_of_zero_le h0
    have hn : n ≤ 1000000000 := by omega
    cases e : vt n == (s.extract a b).toList
    · have H : Hid (fin s a b n = none) := fin_no (by simpa using e)
      go_enter Tryz.func190, Tryz.ntmps190
      go_wp2_with fail
      refine (var10 n hn _).mono ?_
      rintro e w1 ⟨rfl, hb1⟩
      go_wp2
      go_ret3
      exact ⟨by rw [H.out]; rfl, hb1⟩
    · have H : Hid (fin s a b n = some ((n : Int), b)) := fin_yes hle (by simpa using e)
      go_enter Tryz.func190, Tryz.ntmps190
      go_wp2_with fail
      refine (var10 n hn _).mono ?_
      rintro e w1 ⟨rfl, hb1⟩
      go_wp2
      go_ret3
      exact ⟨by rw [H.out]; rfl, hb1⟩
  · have H : Hid (fin s a b N = none) := fin_big hle
    go_enter Tryz.func190, Tryz.ntmps190
    go_wp2_with fail
    refine (no10 N (by omega) (by omega) (by omega) _).mono ?_
    rintro e w1 ⟨rfl, hb1⟩
    go_wp2
    go_ret3
    exact ⟨by rw [H.out]; rfl, hb1⟩
end Go.Proofs.YtfhhnelffldggaaGreatDoor.V
namespace Go.Proofs.YtfhhnelffldggaaGreatDoor.Q
open Go.RowKit Go.PlainAid
set_option linter.unusedVariables false
theorem tab_below {w w' : World} (ht : Tab w) (hb : Below w.heap.size w w') : Tab w' := by
  intro r hr
  have h := ht r hr
  have hlt : 0 < w.heap.size := World.block_lt_of_cell? _ _ h
  unfold World.cell? at h ⊢
  rw [hb.block 0 hlt]
  exact h
theorem more12 (x : Nat) (hx : x < 4294967296) (s : ByteArray) (hs : s.size ≤ 1048577) (w : World) (ht : Tab w) :
    Calls Tryz.prog 189 #[.int .u32 (x : Int), .string s] w fun e w' => e = .returned (.int .u32 (crc x s.data.toList : Nat)) ∧ w' = w := by
  go_enter Tryz.func189, Tryz.ntmps189
  go_wp2
  go_loopw [5, 6] (fun v i wr => ∃ k : Nat, k ≤ s.size ∧ i = .int .i64 k ∧ v = .int .u32 (crc x (s.data.toList.take k) : Nat) ∧ wr = w) (fun _ i _ => s.size - (intOf i).toNat)
  case atStart => exact ⟨0, Nat.zero_le _, rfl, rfl, rfl⟩
  case round =>
    obtain ⟨k, hk, rfl, rfl, rfl⟩ := hrel
    have hlt' := crc_lt hx (s.data.toList.take k)
    by_cases hlt : k < s.size
    · have HR : Hid (crc x (s.data.toList.take (k + 1)) = eight (crc x (s.data.toList.take k) ^^^ s[k].toNat)) := crc_take x s k hlt
      have hix := ix_run s k hlt
      generalize crc x (s.data.toList.take k) = y at *
      obtain ⟨c, hc⟩ : ∃ c : UInt8, c = s[k] := ⟨_, rfl⟩
      rw [← hc] at hix HR
      clear hc
      go_wp2_with fail
      refine (with14 y hlt' c _ ht).mono ?_
      rintro e w2 ⟨rfl, rfl⟩
      go_wp2
      go_roundw
      case rel => exact ⟨k + 1, by omega, by go_num, by rw [HR.out], by trivial⟩
      case measure => simp [intOf]; omega
    · have HY : Hid (crc x (s.data.toList.take k) = crc x s.data.toList) := by show crc _ _ = _; rw [take_all s k hlt]
      generalize crc x (s.data.toList.take k) = y at *
      go_wp2
      go_ret
      exact ⟨by rw [← HY.out]; rfl, rfl⟩
theorem sum8 (s : ByteArray) (hs : s.size ≤ 1048577) (w : World) (ht : Tab w) :
    Calls Tryz.prog 181 #[.string s] w fun e w' => e = .returned (.int .u32 (crc 4294967295 s.data.toList : Nat)) ∧ w' = w := by
  go_enter Tryz.func181, Tryz.ntmps181
  go_wp2_with fail
  refine (more12 4294967295 (by omega) s hs _ ht).mono ?_
  rintro e w2 ⟨rfl, rfl⟩
  go_wp2
  go_ret
  exact ⟨rfl, rfl⟩
theorem fourB_at (x : Nat) (hx : x < 4294967296) : bytesV (fourB x) = [.int .u8 ((x : Int) / 16777216), .int .u8 ((x : Int) / 65536 % 256), .int .u8 ((x : Int) / 256 % 256), .int .u8 ((x : Int) % 256)] := by
  unfold fourB bytesV
  simp only [List.map_cons, List.map_nil, UInt8.toNat_ofNat', List.cons.injEq, Value.int.injEq, true_and, and_true]
  omega
theorem four_run (x : Nat) (hx : x < 4294967296) (w : World) : (convert 22 9 (.slice (some ⟨w.heap.size, 0, none⟩) 4 4)).run Tryz.prog (w.alloc (.cells #[.int .u8 ((x : Int) / 16777216), .int .u8 ((x : Int) / 65536 % 256), .int .u8 ((x : Int) / 256 % 256), .int .u8 ((x : Int) % 256)] 5)) = .ok (.string ⟨(fourB x).toArray⟩) (w.alloc (.cells #[.int .u8 ((x : Int) / 16777216), .int .u8 ((x : Int) / 65536 % 256), .int .u8 ((x : Int) / 256 % 256), .int .u8 ((x : Int) % 256)] 5)) := by
  refine run_convert_bytes_back (P := Tryz.prog) _ 22 9 5 ⟨w.heap.size, 0, none⟩ 4 (fourB x) Tryz.underlying22 Tryz.underlying5 Tryz.underlying9 ?_
  intro j hj
  have e := fourB_at x hx
  have hj' : j < 4 := hj
  have e' : (bytesV (fourB x))[j]? = some (.int .u8 ((fourB x)[j].toNat : Int)) := by
    unfold bytesV; rw [List.getElem?_map, List.getElem?_eq_getElem hj]; rfl
  refine Eq.trans ?_ e'
  rw [e, Addr.add_lit, Nat.zero_add, cell_of_row _ w.heap.size j _ 5 (0, 0) (heap_alloc_new w _)]
  match j, hj' with
  | 0, _ => rfl
  | 1, _ => rfl
  | 2, _ => rfl
  | 3, _ => rfl
theorem four9 (x : Nat) (hx : x < 4294967296) (w : World) :
    Calls Tryz.prog 182 #[.int .u32 (x : Int)] w fun e w' => e = .returned (.string ⟨(fourB x).toArray⟩) ∧ Below w.heap.size w w' := by
  have hcv := four_run x hx w
  obtain ⟨B, hB⟩ : ∃ B, B = fourB x := ⟨_, rfl⟩
  have HB := hq hB
  rw [← hB] at hcv
  clear hB
  go_enter Tryz.func182, Tryz.ntmps182
  go_wp2
  go_ret
  exact ⟨by rw [← HB.out]; rfl, (Below.refl _ _).alloc (Nat.le_refl _) _⟩
theorem smore11 (x : Nat) (hx : x < 4294967296) (s : ByteArray) (hs : s.size ≤ 1048577) (w : World) :
    Calls Tryz.prog 177 #[.int .u32 (x : Int), .string s] w fun e w' => e = .returned (.int .u32 (crc x s.data.toList : Nat)) ∧ w' = w := by
  go_enter Tryz.func177, Tryz.ntmps177
  go_wp2
  go_loopw [0, 5] (fun v i wr => ∃ k : Nat, k ≤ s.size ∧ i = .int .i64 k ∧ v = .int .u32 (crc x (s.data.toList.take k) : Nat) ∧ wr = w) (fun _ i _ => s.size - (intOf i).toNat)
  case atStart => exact ⟨0, Nat.zero_le _, rfl, rfl, rfl⟩
  case round =>
    obtain ⟨k, hk, rfl, rfl, rfl⟩ := hrel
    obtain ⟨wo, rfl⟩ : ∃ wo : World, wo = wr := ⟨_, rfl⟩
    have hlt' := crc_lt hx (s.data.toList.take k)
    by_cases hlt : k < s.size
    · have HR : Hid (crc x (s.data.toList.take (k + 1)) = eight (crc x (s.data.toList.take k) ^^^ s[k].toNat)) := crc_take x s k hlt
      have hix := ix_run s k hlt
      generalize crc x (s.data.toList.take k) = y at *
      obtain ⟨c, hc⟩ : ∃ c : UInt8, c = s[k] := ⟨_, rfl⟩
      rw [← hc] at hix HR
      clear hc
      have h256 := c.toNat_lt
      have e1 : bits .xor .u32 (y : Int) (c.toNat : Int) = ((y ^^^ c.toNat : Nat) : Int) := u32_xor_nat _ _ hlt' (by omega)
      have hy := byte_lt hlt' c
      generalize y ^^^ c.toNat = z at *
      generalize c.toNat = cn at *
      go_wp2
      go_loopw [0, 6] (fun v i wi => ∃ j : Nat, j ≤ 8 ∧ i = .int .i64 j ∧ v = .int .u32 (halves j z : Nat) ∧ wi = wo) (fun _ i _ => 8 - (intOf i).toNat)
      case atStart => exact ⟨0, Nat.zero_le _, rfl, rfl, rfl⟩
      case round =>
        obtain ⟨j, hj, rfl, rfl, rfl⟩ := hrel
        have hh := halves_lt hy j
        by_cases h8 : j < 8
        · rcases Nat.mod_two_eq_zero_or_one (halves j z) with ho | ho
          · have HE : Hid (halves (j + 1) z = halves j z / 2) := halves_even ho
            generalize halves j z = u at *
            have hd : (((u : Int) % 2) == 1) = false := by simp; omega
            go_wp2
            go_roundw
            case rel => exact ⟨j + 1, by omega, by go_num, by rw [HE.out]; rfl, by trivial⟩
            case measure => simp [intOf]; omega
          · have HE : Hid (halves (j + 1) z = halves j z / 2 ^^^ 3558460437) := halves_odd ho
            generalize halves j z = u at *
            have hd : (((u : Int) % 2) == 1) = true := by simp; omega
            have e2 : bits .xor .u32 ((u : Int) / 2) 3558460437 = ((u / 2 ^^^ 3558460437 : Nat) : Int) := u32_xor_nat (u / 2) 3558460437 (by omega) (by omega)
            go_wp2
            go_roundw
            case rel => exact ⟨j + 1, by omega, by go_num, by rw [HE.out], by trivial⟩
            case measure => simp [intOf]; omega
        · obtain rfl : j = 8 := by omega
          rw [halves_eight]
          go_wp2
          go_roundw
          case rel => exact ⟨k + 1, by omega, by go_num, by rw [HR.out], by trivial⟩
          case measure => simp [intOf]; omega
    · have HY : Hid (crc x (s.data.toList.take k) = crc x s.data.toList) := by show crc _ _ = _; rw [take_all s k hlt]
      generalize crc x (s.data.toList.take k) = y at *
      go_wp2
      go_ret
      exact ⟨by rw [← HY.out]; rfl, rfl⟩
theorem ssum7 (s : ByteArray) (hs : s.size ≤ 1048577) (w : World) :
    Calls Tryz.prog 157 #[.string s] w fun e w' => e = .returned (.int .u32 (crc 4294967295 s.data.toList : Nat)) ∧ w' = w := by
  go_enter Tryz.func157, Tryz.ntmps157
  go_wp2_with fail
  refine (smore11 4294967295 (by omega) s hs _).mono ?_
  rintro e w2 ⟨rfl, rfl⟩
  go_wp2
  go_ret
  exact ⟨rfl, rfl⟩
theorem sfour6 (x : Nat) (hx : x < 4294967296) (w : World) :
    Calls Tryz.prog 156 #[.int .u32 (x : Int)] w fun e w' => e = .returned (.string ⟨(fourB x).toArray⟩) ∧ Below w.heap.size w w' := by
  have hcv := four_run x hx w
  obtain ⟨B, hB⟩ : ∃ B, B = fourB x := ⟨_, rfl⟩
  have HB := hq hB
  rw [← hB] at hcv
  clear hB
  go_enter Tryz.func156, Tryz.ntmps156
  go_wp2
  go_ret
  exact ⟨by rw [← HB.out]; rfl, (Below.refl _ _).alloc (Nat.le_refl _) _⟩
end Go.Proofs.YtfhhnelffldggaaGreatDoor.Q
