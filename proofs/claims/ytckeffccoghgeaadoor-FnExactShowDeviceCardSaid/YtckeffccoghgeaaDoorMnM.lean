/-
  Menus: which are right, what a key does, what keys do.
-/
import Derived.Test.YtckeffccoghgeaaDoorOrd
namespace Go.Proofs.YtckeffccoghgeaaDoor
open Go.RowKit Go.PlainAid
set_option linter.unusedVariables false
set_option linter.unusedSimpArgs false

structure Mn where
  a : Int
  b : Bool
  n : Int
  d : Int
  s : List UInt8
/-- a figure -/
def figB (x : UInt8) : Bool := decide (48 ≤ (x.toNat : Int) ∧ (x.toNat : Int) ≤ 57)
def atB (m : Mn) : Bool := decide (1 ≤ m.a ∧ m.a ≤ 4)
def okM (m : Mn) : Bool := decide ((1 ≤ m.a ∧ m.a ≤ 4) ∧ (0 ≤ m.n ∧ m.n ≤ 9999) ∧ (0 ≤ m.d ∧ m.d ≤ 9999) ∧ m.s.length ≤ 4) && m.s.all figB && (decide (m.a ≠ 1) || (decide (m.s = []) && !m.b && decide (m.n = 0) && decide (m.d = 0)))
def newM : Mn := ⟨1, false, 0, 0, []⟩
def numF (s : List UInt8) : Int := s.foldl (fun a c => 10 * a + (c.toNat : Int) - 48) 0
/-- what a key leaves: the menu, the order, whether there is one -/
structure Pr where
  m : Mn
  k : Int
  n : Int
  d : Int
  v : Int
  t : Bool
def noP (m : Mn) : Pr := ⟨m, 0, 0, 0, 0, false⟩
def topM (m : Mn) (key : Int) : Pr :=
  if key = 98 then noP ⟨2, false, 0, 0, []⟩ else if key = 111 then noP ⟨4, true, 0, 0, []⟩ else if key = 112 then ⟨m, 3, 0, 0, 0, true⟩ else if key = 103 then ⟨m, 4, 0, 0, 0, true⟩
  else if key = 115 then ⟨m, 5, 0, 0, 0, true⟩ else if key = 120 then ⟨m, 6, 0, 0, 0, true⟩ else noP m
def endM (m : Mn) : Pr :=
  if m.b = true then (if 1 ≤ numF m.s ∧ numF m.s ≤ 100 then ⟨newM, 2, 0, 0, numF m.s, true⟩ else noP newM)
  else if (1 ≤ m.d ∧ m.d ≤ 1000) ∧ (1 ≤ m.n ∧ m.n ≤ 1000) ∧ m.n ≤ 3 * m.d ∧ (1 ≤ numF m.s ∧ numF m.s ≤ 5000) then ⟨newM, 1, m.n, m.d, numF m.s, true⟩ else noP newM
def pressM (m : Mn) (key : Int) : Pr :=
  if okM m = false then noP m
  else if m.a = 1 then topM m key
  else if 48 ≤ key ∧ key ≤ 57 then (if m.s.length < 4 then noP ⟨m.a, m.b, m.n, m.d, m.s ++ [UInt8.ofNat key.toNat]⟩ else noP m)
  else if key = 99 then noP newM
  else if key ≠ 10 then noP m
  else if m.a = 2 then noP ⟨3, m.b, numF m.s, m.d, []⟩
  else if m.a = 3 then noP ⟨4, m.b, m.n, numF m.s, []⟩
  else endM m
abbrev Od4 := Int × Int × Int × Int
def allM : Mn → List UInt8 → Mn × List Od4
  | m, [] => (m, [])
  | m, x :: k => ((allM (pressM m (x.toNat : Int)).m k).1, if (pressM m (x.toNat : Int)).t = true then ((pressM m (x.toNat : Int)).k, (pressM m (x.toNat : Int)).n, (pressM m (x.toNat : Int)).d, (pressM m (x.toNat : Int)).v) :: (allM (pressM m (x.toNat : Int)).m k).2 else (allM (pressM m (x.toNat : Int)).m k).2)
theorem allM_cons (m : Mn) (x : UInt8) (k : List UInt8) : allM m (x :: k) = ((allM (pressM m (x.toNat : Int)).m k).1, if (pressM m (x.toNat : Int)).t = true then ((pressM m (x.toNat : Int)).k, (pressM m (x.toNat : Int)).n, (pressM m (x.toNat : Int)).d, (pressM m (x.toNat : Int)).v) :: (allM (pressM m (x.toNat : Int)).m k).2 else (allM (pressM m (x.toNat : Int)).m k).2) := rfl
theorem allM_app : ∀ (x y : List UInt8) (m : Mn), allM m (x ++ y) = ((allM (allM m x).1 y).1, (allM m x).2 ++ (allM (allM m x).1 y).2)
  | [], y, m => by simp [allM]
  | c :: x, y, m => by
    rw [List.cons_append, allM_cons, allM_app x y, allM_cons m c x]
    by_cases h : (pressM m (c.toNat : Int)).t = true
    · simp only [h, if_true, List.cons_append]
    · simp only [if_neg h]
theorem okM_iff (m : Mn) : okM m = true ↔ ((1 ≤ m.a ∧ m.a ≤ 4) ∧ (0 ≤ m.n ∧ m.n ≤ 9999) ∧ (0 ≤ m.d ∧ m.d ≤ 9999) ∧ m.s.length ≤ 4) ∧ (∀ x ∈ m.s, figB x = true) ∧ (m.a = 1 → m.s = [] ∧ m.b = false ∧ m.n = 0 ∧ m.d = 0) := by
  unfold okM
  simp only [Bool.and_eq_true, Bool.or_eq_true, decide_eq_true_eq, List.all_eq_true, Bool.not_eq_true']
  constructor
  · rintro ⟨⟨h1, h2⟩, h3⟩
    exact ⟨h1, h2, fun e => by rcases h3 with h3 | h3; exact absurd e h3; exact ⟨h3.1.1.1, h3.1.1.2, h3.1.2, h3.2⟩⟩
  · rintro ⟨h1, h2, h3⟩
    refine ⟨⟨h1, h2⟩, ?_⟩
    by_cases e : m.a = 1
    · exact Or.inr ⟨⟨⟨(h3 e).1, (h3 e).2.1⟩, (h3 e).2.2.1⟩, (h3 e).2.2.2⟩
    · exact Or.inl e
theorem newM_ok : okM newM = true := by decide
theorem fold_bd : ∀ (s : List UInt8) (a : Int) (K : Nat), (∀ x ∈ s, figB x = true) → 0 ≤ a → a ≤ 10 ^ K - 1 → 0 ≤ s.foldl (fun a c => 10 * a + (c.toNat : Int) - 48) a ∧ s.foldl (fun a c => 10 * a + (c.toNat : Int) - 48) a ≤ 10 ^ (K + s.length) - 1
  | [], a, K, _, h0, h1 => ⟨h0, h1⟩
  | x :: s, a, K, hf, h0, h1 => by
    have hx := hf x (List.mem_cons_self ..)
    unfold figB at hx
    have hx := of_decide_eq_true hx
    have h2 : (10 : Int) ^ (K + 1) = 10 ^ K * 10 := Int.pow_succ _ _
    have := fold_bd s (10 * a + (x.toNat : Int) - 48) (K + 1) (fun y hy => hf y (List.mem_cons_of_mem _ hy)) (by omega) (by omega)
    rw [List.foldl_cons, List.length_cons, show K + (s.length + 1) = K + 1 + s.length by omega]
    exact this
theorem numF_bd {s : List UInt8} (hf : ∀ x ∈ s, figB x = true) (hl : s.length ≤ 4) : 0 ≤ numF s ∧ numF s ≤ 9999 := by
  have h := fold_bd s 0 0 hf (by omega) (by decide)
  rw [Nat.zero_add] at h
  have h2 : (10 : Int) ^ s.length ≤ 10000 := by
    have : s.length = 0 ∨ s.length = 1 ∨ s.length = 2 ∨ s.length = 3 ∨ s.length = 4 := by omega
    rcases this with e | e | e | e | e <;> rw [e] <;> decide
  unfold numF
  omega
theorem figB_key {key : Int} (h : 48 ≤ key ∧ key ≤ 57) : figB (UInt8.ofNat key.toNat) = true := by
  unfold figB
  have : (UInt8.ofNat key.toNat).toNat = key.toNat := by simp; omega
  rw [this]
  exact decide_eq_true (by omega)
theorem topM_ok {m : Mn} (h : okM m = true) (key : Int) : okM (topM m key).m = true := by
  unfold topM noP
  repeat' split
  all_goals first | exact h | decide
theorem endM_ok (m : Mn) : okM (endM m).m = true := by
  unfold endM noP
  repeat' split
  all_goals exact newM_ok
theorem pressM_ok {m : Mn} (h : okM m = true) (key : Int) : okM (pressM m key).m = true := by
  have h' := (okM_iff m).1 h
  have hn := numF_bd h'.2.1 h'.1.2.2.2
  unfold pressM
  rw [if_neg (by rw [h]; decide)]
  by_cases h1 : m.a = 1
  · rw [if_pos h1]; exact topM_ok h key
  rw [if_neg h1]
  by_cases h2 : 48 ≤ key ∧ key ≤ 57
  · rw [if_pos h2]
    by_cases h3 : m.s.length < 4
    · rw [if_pos h3]
      refine (okM_iff _).2 ⟨⟨h'.1.1, h'.1.2.1, h'.1.2.2.1, ?_⟩, fun x hx => ?_, fun e => absurd e h1⟩
      · simp only [noP, List.length_append, List.length_cons, List.length_nil]; omega
      · rcases List.mem_append.1 hx with hx | hx
        · exact h'.2.1 x hx
        · rw [List.mem_singleton.1 hx]; exact figB_key h2
    · rw [if_neg h3]; exact h
  rw [if_neg h2]
  by_cases h3 : key = 99
  · rw [if_pos h3]; exact newM_ok
  rw [if_neg h3]
  by_cases h4 : key ≠ 10
  · rw [if_pos h4]; exact h
  rw [if_neg h4]
  by_cases h5 : m.a = 2
  · rw [if_pos h5]
    exact (okM_iff _).2 ⟨⟨by simp [noP], hn, h'.1.2.2.1, by simp [noP]⟩, fun x hx => by simp [noP] at hx, fun e => by simp [noP] at e⟩
  rw [if_neg h5]
  by_cases h6 : m.a = 3
  · rw [if_pos h6]
    exact (okM_iff _).2 ⟨⟨by simp [noP], h'.1.2.1, hn, by simp [noP]⟩, fun x hx => by simp [noP] at hx, fun e => by simp [noP] at e⟩
  rw [if_neg h6]
  exact endM_ok m
def PrR (p : Pr) : Prop := (p.t = true → OrdR p.k p.n p.d p.v) ∧ (p.t = false → p.k = 0 ∧ p.n = 0 ∧ p.d = 0 ∧ p.v = 0)
theorem noP_r (m : Mn) : PrR (noP m) := ⟨fun e => (by cases e), fun _ => ⟨rfl, rfl, rfl, rfl⟩⟩
theorem topM_r (m : Mn) (key : Int) : PrR (topM m key) := by
  unfold topM
  repeat' split
  all_goals first | exact noP_r _ | exact ⟨fun _ => (by unfold OrdR; simp), fun e => (by cases e)⟩
theorem endM_r (m : Mn) : PrR (endM m) := by
  unfold endM
  by_cases hb : m.b = true
  · rw [if_pos hb]
    by_cases h : 1 ≤ numF m.s ∧ numF m.s ≤ 100
    · rw [if_pos h]; exact ⟨fun _ => (by unfold OrdR; simp; exact h), fun e => (by cases e)⟩
    · rw [if_neg h]; exact noP_r _
  · rw [if_neg hb]
    by_cases h : (1 ≤ m.d ∧ m.d ≤ 1000) ∧ (1 ≤ m.n ∧ m.n ≤ 1000) ∧ m.n ≤ 3 * m.d ∧ (1 ≤ numF m.s ∧ numF m.s ≤ 5000)
    · rw [if_pos h]; exact ⟨fun _ => (by unfold OrdR; simp; omega), fun e => (by cases e)⟩
    · rw [if_neg h]; exact noP_r _
theorem pressM_r (m : Mn) (key : Int) : PrR (pressM m key) := by
  unfold pressM
  repeat' split
  all_goals first | exact noP_r _ | exact topM_r _ _ | exact endM_r _
theorem allM_ok : ∀ (k : List UInt8) (m : Mn), okM m = true → okM (allM m k).1 = true
  | [], m, h => h
  | x :: k, m, h => allM_ok k _ (pressM_ok h _)
theorem allM_r : ∀ (k : List UInt8) (m : Mn), ∀ o ∈ (allM m k).2, OrdR o.1 o.2.1 o.2.2.1 o.2.2.2
  | [], m, o, h => by cases h
  | x :: k, m, o, h => by
    unfold allM at h
    by_cases ht : (pressM m (x.toNat : Int)).t = true
    · simp only [ht, if_true] at h
      rcases List.mem_cons.1 h with rfl | h
      · exact (pressM_r m _).1 ht
      · exact allM_r k _ o h
    · simp only [if_neg ht] at h
      exact allM_r k _ o h
theorem allM_len : ∀ (k : List UInt8) (m : Mn), (allM m k).2.length ≤ k.length
  | [], m => Nat.le_refl _
  | x :: k, m => by
    have := allM_len k (pressM m (x.toNat : Int)).m
    unfold allM
    by_cases ht : (pressM m (x.toNat : Int)).t = true
    · simp only [ht, if_true, List.length_cons]; omega
    · simp only [if_neg ht, List.length_cons]; omega
/-- one key more -/
theorem allM_take {k : List UInt8} {j : Nat} (h : j < k.length) (m : Mn) : allM m (k.take (j + 1)) = ((pressM (allM m (k.take j)).1 (k[j].toNat : Int)).m, if (pressM (allM m (k.take j)).1 (k[j].toNat : Int)).t = true then (allM m (k.take j)).2 ++ [((pressM (allM m (k.take j)).1 (k[j].toNat : Int)).k, (pressM (allM m (k.take j)).1 (k[j].toNat : Int)).n, (pressM (allM m (k.take j)).1 (k[j].toNat : Int)).d, (pressM (allM m (k.take j)).1 (k[j].toNat : Int)).v)] else (allM m (k.take j)).2) := by
  rw [← List.take_append_getElem h, allM_app]
  simp only [allM]
  by_cases ht : (pressM (allM m (k.take j)).1 (k[j].toNat : Int)).t = true
  · simp only [ht, if_true]
  · simp only [if_neg ht, List.append_nil]
/-- a menu that is not right stays -/
theorem allM_no : ∀ (k : List UInt8) (m : Mn), okM m = false → allM m k = (m, [])
  | [], m, h => rfl
  | x :: k, m, h => by
    have hp : pressM m (x.toNat : Int) = noP m := by unfold pressM; rw [if_pos h]
    unfold allM
    rw [hp]
    simp only [noP, allM_no k m h, Bool.false_eq_true, if_false]
end Go.Proofs.YtckeffccoghgeaaDoor
