/-
  A region that draws its order, in which three variables are made whenever it likes, beside a chain of operations: it goes by stages, one for each operation of the chain, whichever of the three are there.
-/
import Derived.Deep.RegionHeld3
import Derived.Test.YtgpdkodnggpkeaaBase
namespace Go.Proofs.Ytgpdkodnggpkeaa
open Go.RowKit Go.PlainAid
set_option linter.unusedVariables false

theorem put_self (a : Act) (d : Nat) : a.put (some d) (a.tmps.getD d undef) = a := by
  cases a with
  | mk tmps defers =>
    simp only [Act.put]
    congr 1
    apply Array.ext_getElem?
    intro i
    rw [Array.getElem?_setIfInBounds]
    by_cases h : d = i
    · subst h
      by_cases h2 : d < tmps.size
      · simp [h2, Array.getD]
      · simp [h2]
    · simp [h]
def remB (x y z : Bool) : Nat := (if x then 0 else 1) + (if y then 0 else 1) + (if z then 0 else 1)
section
variable {P : Program} {md : Region.Mode} {ops : Array Oper} {Q : Exit → Act → World → Prop} {S : World → Prop}

/-- one more operation of the chain, c; i1, i2, i3 make the variables -/
theorem stage3 {i1 i2 i3 c : Nat} (L L' : Bool → Bool → Bool → Array Bool) (St St' : Bool → Bool → Bool → Act → World → Prop) (K : Nat)
    (hr : ∀ x y z, ∀ i ∈ Region.ready md ops (L x y z), i = c ∨ (i = i1 ∧ x = false) ∨ (i = i2 ∧ y = false) ∨ (i = i3 ∧ z = false))
    (hne : ∀ x y z, Region.ready md ops (L x y z) ≠ [])
    (h1 : ∀ y z, (L false y z).setIfInBounds i1 true = L true y z) (h2 : ∀ x z, (L x false z).setIfInBounds i2 true = L x true z) (h3 : ∀ x y, (L x y false).setIfInBounds i3 true = L x y true)
    (hc : ∀ x y z, (L x y z).setIfInBounds c true = L' x y z)
    (s1 : ∀ y z a w, S w → St false y z a w → wpOp P ops Q i1 (fun a' w' => S w' ∧ St true y z a' w') a w)
    (s2 : ∀ x z a w, S w → St x false z a w → wpOp P ops Q i2 (fun a' w' => S w' ∧ St x true z a' w') a w)
    (s3 : ∀ x y a w, S w → St x y false a w → wpOp P ops Q i3 (fun a' w' => S w' ∧ St x y true a' w') a w)
    (sc : ∀ x y z a w, S w → St x y z a w → wpOp P ops Q c (fun a' w' => S w' ∧ St' x y z a' w') a w)
    (next : ∀ x y z f a w, K + remB x y z ≤ f → S w → St' x y z a w → wpAnyH P md ops Q S f (L' x y z) a w) :
    ∀ x y z f a w, K + 1 + remB x y z ≤ f → S w → St x y z a w → wpAnyH P md ops Q S f (L x y z) a w := by
  have key : ∀ n x y z f a w, remB x y z = n → K + 1 + n ≤ f → S w → St x y z a w → wpAnyH P md ops Q S f (L x y z) a w := by
    intro n
    induction n with
    | zero =>
      intro x y z f a w hn hf hS hSt
      obtain ⟨f', rfl⟩ : ∃ f', f = f' + 1 := ⟨f - 1, by omega⟩
      refine ⟨fun h => absurd h (hne x y z), fun i hi => ?_⟩
      rcases hr x y z i hi with rfl | ⟨rfl, rfl⟩ | ⟨rfl, rfl⟩ | ⟨rfl, rfl⟩
      · exact wpOp_mono (fun a' w' h => ⟨h.1, by rw [hc]; exact next x y z f' a' w' (by omega) h.1 h.2⟩) (sc x y z a w hS hSt)
      · simp [remB] at hn
      · simp [remB] at hn
      · simp [remB] at hn
    | succ n ih =>
      intro x y z f a w hn hf hS hSt
      obtain ⟨f', rfl⟩ : ∃ f', f = f' + 1 := ⟨f - 1, by omega⟩
      refine ⟨fun h => absurd h (hne x y z), fun i hi => ?_⟩
      rcases hr x y z i hi with rfl | ⟨rfl, rfl⟩ | ⟨rfl, rfl⟩ | ⟨rfl, rfl⟩
      · exact wpOp_mono (fun a' w' h => ⟨h.1, by rw [hc]; exact next x y z f' a' w' (by omega) h.1 h.2⟩) (sc x y z a w hS hSt)
      · exact wpOp_mono (fun a' w' h => ⟨h.1, by rw [h1]; exact ih true y z f' a' w' (by simp [remB] at hn ⊢; omega) (by omega) h.1 h.2⟩) (s1 y z a w hS hSt)
      · exact wpOp_mono (fun a' w' h => ⟨h.1, by rw [h2]; exact ih x true z f' a' w' (by simp [remB] at hn ⊢; omega) (by omega) h.1 h.2⟩) (s2 x z a w hS hSt)
      · exact wpOp_mono (fun a' w' h => ⟨h.1, by rw [h3]; exact ih x y true f' a' w' (by simp [remB] at hn ⊢; omega) (by omega) h.1 h.2⟩) (s3 x y a w hS hSt)
  exact fun x y z f a w hf hS hSt => key _ x y z f a w rfl hf hS hSt

/-- the chain is over: what is left to be made is made -/
theorem stage3e {i1 i2 i3 : Nat} (L : Bool → Bool → Bool → Array Bool) (St : Bool → Bool → Bool → Act → World → Prop) (K : Nat)
    (hr : ∀ x y z, (x = false ∨ y = false ∨ z = false) → ∀ i ∈ Region.ready md ops (L x y z), (i = i1 ∧ x = false) ∨ (i = i2 ∧ y = false) ∨ (i = i3 ∧ z = false))
    (hne : ∀ x y z, Region.ready md ops (L x y z) ≠ [])
    (h1 : ∀ y z, (L false y z).setIfInBounds i1 true = L true y z) (h2 : ∀ x z, (L x false z).setIfInBounds i2 true = L x true z) (h3 : ∀ x y, (L x y false).setIfInBounds i3 true = L x y true)
    (s1 : ∀ y z a w, S w → St false y z a w → wpOp P ops Q i1 (fun a' w' => S w' ∧ St true y z a' w') a w)
    (s2 : ∀ x z a w, S w → St x false z a w → wpOp P ops Q i2 (fun a' w' => S w' ∧ St x true z a' w') a w)
    (s3 : ∀ x y a w, S w → St x y false a w → wpOp P ops Q i3 (fun a' w' => S w' ∧ St x y true a' w') a w)
    (fin : ∀ f a w, K ≤ f → S w → St true true true a w → wpAnyH P md ops Q S f (L true true true) a w) :
    ∀ x y z f a w, K + remB x y z ≤ f → S w → St x y z a w → wpAnyH P md ops Q S f (L x y z) a w := by
  have key : ∀ n x y z f a w, remB x y z = n → K + n ≤ f → S w → St x y z a w → wpAnyH P md ops Q S f (L x y z) a w := by
    intro n
    induction n with
    | zero =>
      intro x y z f a w hn hf hS hSt
      have hx : x = true := by cases x <;> simp [remB] at hn ⊢
      have hy : y = true := by cases y <;> simp [remB] at hn ⊢
      have hz : z = true := by cases z <;> simp [remB] at hn ⊢
      subst hx hy hz
      exact fin f a w (by omega) hS hSt
    | succ n ih =>
      intro x y z f a w hn hf hS hSt
      obtain ⟨f', rfl⟩ : ∃ f', f = f' + 1 := ⟨f - 1, by omega⟩
      have hp : x = false ∨ y = false ∨ z = false := by cases x <;> cases y <;> cases z <;> simp [remB] at hn ⊢
      refine ⟨fun h => absurd h (hne x y z), fun i hi => ?_⟩
      rcases hr x y z hp i hi with ⟨rfl, rfl⟩ | ⟨rfl, rfl⟩ | ⟨rfl, rfl⟩
      · exact wpOp_mono (fun a' w' h => ⟨h.1, by rw [h1]; exact ih true y z f' a' w' (by simp [remB] at hn ⊢; omega) (by omega) h.1 h.2⟩) (s1 y z a w hS hSt)
      · exact wpOp_mono (fun a' w' h => ⟨h.1, by rw [h2]; exact ih x true z f' a' w' (by simp [remB] at hn ⊢; omega) (by omega) h.1 h.2⟩) (s2 x z a w hS hSt)
      · exact wpOp_mono (fun a' w' h => ⟨h.1, by rw [h3]; exact ih x y true f' a' w' (by simp [remB] at hn ⊢; omega) (by omega) h.1 h.2⟩) (s3 x y a w hS hSt)
  exact fun x y z f a w hf hS hSt => key _ x y z f a w rfl hf hS hSt

/-- an operation that yields whatever the world, taken ahead of all others -/
theorem stageT {i : Nat} {oi : Oper} (hi : ops[i]? = some oi) (hs : Region.noSelect ops = true) (L L' : Bool → Bool → Bool → Array Bool) (St St' : Bool → Bool → Bool → Act → World → Prop) (K : Nat)
    (hf : ∀ x y z, Region.free md ops (L x y z) i = true) (hr : ∀ x y z, (Region.ready md ops (L x y z)).contains i = true)
    (hc : ∀ x y z, (L x y z).setIfInBounds i true = L' x y z)
    (hQ : ∀ v c a w, Q (.panic c) (a.put oi.dst v) w → Q (.panic c) a w)
    (hy : ∀ x y z a w, S w → St x y z a w → ∃ v, YieldsIf P ops S oi v a ∧ St' x y z (a.put oi.dst v) w)
    (next : ∀ x y z f a w, K + remB x y z ≤ f → S w → St' x y z a w → wpAnyH P md ops Q S f (L' x y z) a w) :
    ∀ x y z f a w, K + 1 + remB x y z ≤ f → S w → St x y z a w → wpAnyH P md ops Q S f (L x y z) a w := by
  intro x y z f a w hf' hS hSt
  obtain ⟨f', rfl⟩ : ∃ f', f = f' + 1 := ⟨f - 1, by omega⟩
  obtain ⟨v, hy1, hy2⟩ := hy x y z a w hS hSt
  refine wpAnyH_take hi hs (hf x y z) (hr x y z) (hQ v) hy1 hS ?_
  rw [hc]
  exact next x y z f' _ w (by omega) hS hy2

theorem mem_kernel {l : Array Bool} {rs : List Nat} {i : Nat} (h : Region.ready md ops l = rs) (hi : i ∈ Region.ready md ops l) : i ∈ rs := h ▸ hi
theorem ne_kernel {l : Array Bool} {rs : List Nat} (h : Region.ready md ops l = rs) (hn : rs ≠ []) : Region.ready md ops l ≠ [] := h ▸ hn
theorem main_go {L : Bool → Bool → Bool → Array Bool} {St : Bool → Bool → Bool → Act → World → Prop} {K : Nat}
    (h : ∀ x y z f a w, K + remB x y z ≤ f → S w → St x y z a w → wpAnyH P md ops Q S f (L x y z) a w) {fuel : Nat} {listed : Array Bool} {a : Act} {w : World} (hl : listed = L false false false) (hf : K + 3 ≤ fuel) (hS : S w) (hSt : St false false false a w) : wpAnyH P md ops Q S fuel listed a w := by
  subst hl; exact h false false false fuel a w hf hS hSt
theorem wpAnyH_named {fuel : Nat} {listed : Array Bool} {a : Act} {w : World} (h : ∀ a0, a0 = a → wpAnyH P md ops Q S fuel listed a0 w) : wpAnyH P md ops Q S fuel listed a w := h a rfl
end
end Go.Proofs.Ytgpdkodnggpkeaa
