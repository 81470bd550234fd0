/-
  What rules tell of a part and a fault: mathematics; the map that keeps the first act of each.
-/
import Derived.Test.YtphijlknefgkiaaGreatDoorRu10
import Derived.Maps.OwnSet
import Derived.DeepKeys4
namespace Go.Proofs.YtphijlknefgkiaaGreatDoor
open Go.RowKit Go.PlainAid Go.Maps
set_option linter.unusedVariables false

/-- the act of the first rule for p and f -/
def actOf : List Rule → Int → Int → Option Int
  | [], _, _ => none
  | r :: t, p, f => if r.1 = p ∧ r.2.1 = f then some r.2.2 else actOf t p f
/-- .. without one -/
def actBase (f : Int) : Int := if f = 1 then 3 else 0
/-- .. who starts too often -/
def actFin (a s : Int) : Int := if (a = 1 ∨ a = 2) ∧ 3 ≤ s then 3 else a
def actR (l : List Rule) (p f s : Int) : Int := actFin ((actOf l p f).getD (actBase f)) s

theorem actOf_snoc : ∀ (l : List Rule) (r : Rule) (p f : Int), actOf (l ++ [r]) p f = (actOf l p f).or (if r.1 = p ∧ r.2.1 = f then some r.2.2 else none)
  | [], r, p, f => by simp [actOf]
  | x :: t, r, p, f => by
    simp only [List.cons_append, actOf]
    by_cases h : x.1 = p ∧ x.2.1 = f
    · rw [if_pos h, if_pos h]; rfl
    · rw [if_neg h, if_neg h]; exact actOf_snoc t r p f
theorem actOf_none : ∀ (l : List Rule) (p f : Int), actOf l p f = none ↔ ∀ k (h : k < l.length), ¬ (l[k].1 = p ∧ l[k].2.1 = f)
  | [], p, f => ⟨fun _ k h => by simp at h, fun _ => rfl⟩
  | x :: t, p, f => by
    simp only [actOf]
    by_cases h : x.1 = p ∧ x.2.1 = f
    · rw [if_pos h]
      refine ⟨fun h' => (by cases h'), fun h' => absurd h (h' 0 (by simp))⟩
    · rw [if_neg h, actOf_none t p f]
      refine ⟨fun h' k hk => ?_, fun h' k hk => h' (k + 1) (by simpa using hk)⟩
      cases k with
      | zero => exact h
      | succ k => exact h' k (by simpa using hk)
theorem actOf_drop {l : List Rule} {i : Nat} (h : i < l.length) (p f : Int) : actOf (l.drop i) p f = if l[i].1 = p ∧ l[i].2.1 = f then some l[i].2.2 else actOf (l.drop (i + 1)) p f := by
  rw [List.drop_eq_getElem_cons h]; rfl
theorem actOf_take {l : List Rule} {j : Nat} (h : j < l.length) (p f : Int) : actOf (l.take (j + 1)) p f = (actOf (l.take j) p f).or (if l[j].1 = p ∧ l[j].2.1 = f then some l[j].2.2 else none) := by
  rw [List.take_succ_eq_append_getElem h, actOf_snoc]

/-- of the first j rules none is told twice -/
def NoT (l : List Rule) (j : Nat) : Prop := ∀ i (h : i < l.length), i < j → ∀ k (hk : k < i), ¬ ((l[k]'(by omega)).1 = l[i].1 ∧ (l[k]'(by omega)).2.1 = l[i].2.1)
theorem noT_succ {l : List Rule} {j : Nat} (hj : j < l.length) : NoT l (j + 1) ↔ NoT l j ∧ actOf (l.take j) l[j].1 l[j].2.1 = none := by
  rw [actOf_none]
  constructor
  · intro h
    refine ⟨fun i hi hij => h i hi (by omega), fun k hk => ?_⟩
    have hk' : k < j := by simp at hk; omega
    have := h j hj (by omega) k hk'
    rw [List.getElem_take]
    exact this
  · rintro ⟨h1, h2⟩ i hi hij k hk
    rcases Nat.lt_or_ge i j with h' | h'
    · exact h1 i hi h' k hk
    · obtain rfl : i = j := by omega
      have := h2 k (by simp; omega)
      rw [List.getElem_take] at this
      exact this
theorem rulesR_iff (l : List Rule) : RulesR l ↔ (∀ i (h : i < l.length), ruleR l[i]) ∧ NoT l l.length ∧ l.length ≤ 8 := by
  constructor
  · rintro ⟨h1, h2⟩
    exact ⟨fun i h => (h1 i h h).1, fun i h hi => (h1 i h hi).2, h2⟩
  · rintro ⟨h1, h2, h3⟩
    exact ⟨fun i h hi => ⟨h1 i h, h2 i h hi⟩, h3⟩

/-! ### the map -/
theorem laidT : laidOutB Tryz.prog = true := by kernel_rfl
theorem rowT : (187 : TypeId) < Tryz.prog.types.size := of_decide_eq_true (by kernel_rfl)
theorem wideT : (match Tryz.prog.underlying 187 with | some (.array _ _) | some (.struct _) => true | _ => false) = true := by rw [Tryz.underlying187]
set_option maxRecDepth 100000 in
theorem lawT : Keyed Tryz.prog 187 := Keyed.of_law (deep_law_laid laidT (m := 2) (by omega) rowT (by kernel_rfl) wideT)
theorem keyTyT : Tryz.prog.keyType 187 = true := by kernel_rfl
theorem cellsT : Tryz.prog.cellsOf 187 = 2 := by kernel_rfl
theorem formedT (c0 c1 : Value) : (Value.agg #[c0, c1]).formed Tryz.prog 187 = true := by simp [Value.formed, Tryz.underlying187, cellsT]
theorem zeroT (w : World) : (zeroValue 3).run Tryz.prog w = .ok (.int .i64 0) w := by kernel_rfl
/-- what a key reads as -/
def klT (p f : Int) : Lit := .string (keyBytes [.int .i64 p, .int .i64 f])
theorem keyT {p f : Int} (hp : wfI p) (hf : wfI f) : keyOf Tryz.prog 187 (.agg #[.int .i64 p, .int .i64 f]) = some (klT p f) := by
  unfold wfI at hp hf
  obtain ⟨m, hm⟩ : ∃ m, Tryz.prog.types.size + 1 = m + 2 := ⟨Tryz.prog.types.size - 1, by have h0 : 0 < Tryz.prog.types.size := Nat.lt_of_le_of_lt (Nat.zero_le _) rowT; omega⟩
  unfold keyOf
  rw [Tryz.underlying187]
  simp only [keyTyT, formedT, Bool.and_self, if_true, hm]
  simp [Program.keyLits, Tryz.underlying187, cellsT, Value.cells, Tryz.underlying3, cells3, hp, hf, klT]
theorem klT_inj {p f q g : Int} (hp : wfI p) (hf : wfI f) (hq : wfI q) (hg : wfI g) (h : klT p f = klT q g) : p = q ∧ f = g := by
  have h2 := keyT hq hg
  rw [← h] at h2
  have := lawT.inj (keyT hp hf) h2
  simpa using this
theorem klT_key (p f : Int) : WideAt.IsKeyLit (klT p f) := trivial

/-- the map D keeps what the first j rules tell -/
def ActsD (D : DataW Unit) (l : List Rule) (j : Nat) : Prop :=
  (∀ p f, wfI p → wfI f → Maps.has D (klT p f) = (actOf (l.take j) p f).isSome ∧ ∀ x, actOf (l.take j) p f = some x → D.atKey (klT p f) (.lit (.int .i64 0)) = .lit (.int .i64 x)) ∧
  Maps.size D ≤ j ∧ (Maps.size D = j ↔ NoT l j)
theorem actsD_zero (l : List Rule) : ActsD (.map []) l 0 :=
  ⟨fun p f _ _ => ⟨rfl, fun x h => by simp [actOf] at h⟩, Nat.le_refl _, ⟨fun _ i h hi => by omega, fun _ => rfl⟩⟩
theorem actsD_old {D : DataW Unit} {l : List Rule} {j : Nat} (h : ActsD D l j) (hw : WfU l) (hj : j < l.length) (hh : Maps.has D (klT l[j].1 l[j].2.1) = true) : ActsD D l (j + 1) := by
  obtain ⟨h1, h2, h3⟩ := h
  obtain ⟨w1, w2, w3⟩ := hw j hj
  have h4 := (h1 _ _ w1 w2).1
  rw [hh] at h4
  refine ⟨fun p f wp wf => ?_, by omega, ⟨fun e => by omega, fun e => ?_⟩⟩
  · have h5 := h1 p f wp wf
    rw [actOf_take hj]
    by_cases hc : l[j].1 = p ∧ l[j].2.1 = f
    · obtain ⟨rfl, rfl⟩ := hc
      cases ha : actOf (l.take j) l[j].1 l[j].2.1 with
      | none => rw [ha] at h4; cases h4
      | some x => rw [ha] at h5; exact h5
    · rw [if_neg hc, Option.or_none]; exact h5
  · rw [noT_succ hj] at e
    rw [e.2] at h4
    cases h4
theorem actsD_new {D : DataW Unit} {l : List Rule} {j : Nat} (h : ActsD D l j) (ht : Tidy D) (hw : WfU l) (hj : j < l.length) (hh : Maps.has D (klT l[j].1 l[j].2.1) = false) : ActsD (D.put (klT l[j].1 l[j].2.1) (.lit (.int .i64 l[j].2.2))) l (j + 1) := by
  obtain ⟨h1, h2, h3⟩ := h
  obtain ⟨w1, w2, w3⟩ := hw j hj
  have h4 := (h1 _ _ w1 w2).1
  rw [hh] at h4
  have ha : actOf (l.take j) l[j].1 l[j].2.1 = none := by
    cases hx : actOf (l.take j) l[j].1 l[j].2.1 with
    | none => rfl
    | some x => rw [hx] at h4; cases h4
  have hs : Maps.size (D.put (klT l[j].1 l[j].2.1) (.lit (.int .i64 l[j].2.2))) = Maps.size D + 1 := by
    rw [Maps.size_put ht, hh]; rfl
  refine ⟨fun p f wp wf => ?_, by omega, ?_⟩
  · rw [actOf_take hj]
    by_cases hc : l[j].1 = p ∧ l[j].2.1 = f
    · obtain ⟨rfl, rfl⟩ := hc
      rw [ha, if_pos ⟨rfl, rfl⟩, Maps.has_put_same ht.isMap (klT_key _ _)]
      refine ⟨rfl, fun x hx => ?_⟩
      rw [Maps.atKey_put_same ht.isMap (klT_key _ _)]
      simp at hx
      rw [hx]
    · have hne : klT p f ≠ klT l[j].1 l[j].2.1 := fun e => by
        obtain ⟨e1, e2⟩ := klT_inj wp wf w1 w2 e
        exact hc ⟨e1.symm, e2.symm⟩
      rw [if_neg hc, Option.or_none, Maps.has_put_other hne, Maps.atKey_put_other hne]
      exact h1 p f wp wf
  · rw [noT_succ hj, hs]
    exact ⟨fun e => ⟨h3.1 (by omega), ha⟩, fun e => by have := h3.2 e.1; omega⟩
/-- block M of w is such a map of all n rules -/
def MapA (w : World) (M n : Nat) (D : DataW Unit) : Prop := w.ownsMap Tryz.prog 187 (plainElem Tryz.prog 3) M n D
theorem MapA.on {w w' : World} {M n : Nat} {D : DataW Unit} (h : MapA w M n D) (hb : Below w.heap.size w w') : MapA w' M n D := by
  have hlt := World.ownsMap.lt h
  obtain ⟨es, clock, h1, r⟩ := h
  exact ⟨es, clock, (hb.block M hlt).trans h1, r⟩
end Go.Proofs.YtphijlknefgkiaaGreatDoor
