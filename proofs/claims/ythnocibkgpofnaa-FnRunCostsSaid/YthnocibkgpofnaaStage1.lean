/-
  A region that draws its order, in which one variable is made whenever it likes, beside a chain of operations (Stage's stages, for one variable).
-/
import Derived.Test.YthnocibkgpofnaaStage
import Derived.Test.YthnocibkgpofnaaOuts
namespace Go.Proofs.Ythnocibkgpofnaa
open Go.RowKit Go.PlainAid
set_option linter.unusedVariables false
def rem1 (x : Bool) : Nat := if x then 0 else 1
section
variable {P : Program} {md : Region.Mode} {ops : Array Oper} {Q : Exit → Act → World → Prop} {S : World → Prop}

theorem stage1 {i1 c : Nat} (L L' : Bool → Array Bool) (St St' : Bool → Act → World → Prop) (K : Nat)
    (hr : ∀ x, ∀ i ∈ Region.ready md ops (L x), i = c ∨ (i = i1 ∧ x = false))
    (hne : ∀ x, Region.ready md ops (L x) ≠ [])
    (h1 : (L false).setIfInBounds i1 true = L true)
    (hc : ∀ x, (L x).setIfInBounds c true = L' x)
    (s1 : ∀ a w, S w → St false a w → wpOp P ops Q i1 (fun a' w' => S w' ∧ St true a' w') a w)
    (sc : ∀ x a w, S w → St x a w → wpOp P ops Q c (fun a' w' => S w' ∧ St' x a' w') a w)
    (next : ∀ x f a w, K + rem1 x ≤ f → S w → St' x a w → wpAnyH P md ops Q S f (L' x) a w) :
    ∀ x f a w, K + 1 + rem1 x ≤ f → S w → St x a w → wpAnyH P md ops Q S f (L x) a w := by
  have ht : ∀ f a w, K + 1 ≤ f → S w → St true a w → wpAnyH P md ops Q S f (L true) a w := by
    intro f a w hf hS hSt
    obtain ⟨f', rfl⟩ : ∃ f', f = f' + 1 := ⟨f - 1, by omega⟩
    refine ⟨fun h => absurd h (hne true), fun i hi => ?_⟩
    rcases hr true i hi with rfl | ⟨rfl, h⟩
    · exact wpOp_mono (fun a' w' h => ⟨h.1, by rw [hc]; exact next true f' a' w' (by simp [rem1]; omega) h.1 h.2⟩) (sc true a w hS hSt)
    · cases h
  intro x f a w hf hS hSt
  cases x
  · obtain ⟨f', rfl⟩ : ∃ f', f = f' + 1 := ⟨f - 1, by omega⟩
    have hf2 : K + 1 ≤ f' := by simp [rem1] at hf; omega
    refine ⟨fun h => absurd h (hne false), fun i hi => ?_⟩
    rcases hr false i hi with rfl | ⟨rfl, h⟩
    · exact wpOp_mono (fun a' w' h => ⟨h.1, by rw [hc]; exact next false f' a' w' (by simp [rem1]; omega) h.1 h.2⟩) (sc false a w hS hSt)
    · exact wpOp_mono (fun a' w' h => ⟨h.1, by rw [h1]; exact ht f' a' w' hf2 h.1 h.2⟩) (s1 a w hS hSt)
  · exact ht f a w (by simp [rem1] at hf; omega) hS hSt

theorem stage1e {i1 : Nat} (L : Bool → Array Bool) (St : Bool → Act → World → Prop) (K : Nat)
    (hr : ∀ i ∈ Region.ready md ops (L false), i = i1)
    (hne : Region.ready md ops (L false) ≠ [])
    (h1 : (L false).setIfInBounds i1 true = L true)
    (s1 : ∀ a w, S w → St false a w → wpOp P ops Q i1 (fun a' w' => S w' ∧ St true a' w') a w)
    (fin : ∀ f a w, K ≤ f → S w → St true a w → wpAnyH P md ops Q S f (L true) a w) :
    ∀ x f a w, K + rem1 x ≤ f → S w → St x a w → wpAnyH P md ops Q S f (L x) a w := by
  intro x f a w hf hS hSt
  cases x
  · obtain ⟨f', rfl⟩ : ∃ f', f = f' + 1 := ⟨f - 1, by simp [rem1] at hf; omega⟩
    have hf2 : K ≤ f' := by simp [rem1] at hf; omega
    refine ⟨fun h => absurd h hne, fun i hi => ?_⟩
    obtain rfl := hr i hi
    exact wpOp_mono (fun a' w' h => ⟨h.1, by rw [h1]; exact fin f' a' w' hf2 h.1 h.2⟩) (s1 a w hS hSt)
  · exact fin f a w (by simp [rem1] at hf; omega) hS hSt

/-- an operation that yields whatever the world, taken ahead of all others -/
theorem stage1T {i : Nat} {oi : Oper} (hi : ops[i]? = some oi) (hs : Region.noSelect ops = true) (L L' : Bool → Array Bool) (St St' : Bool → Act → World → Prop) (K : Nat)
    (hf : ∀ x, Region.free md ops (L x) i = true) (hr : ∀ x, (Region.ready md ops (L x)).contains i = true)
    (hc : ∀ x, (L x).setIfInBounds i true = L' x)
    (hQ : ∀ v c a w, Q (.panic c) (a.put oi.dst v) w → Q (.panic c) a w)
    (hy : ∀ x a w, S w → St x a w → ∃ v, YieldsIf P ops S oi v a ∧ St' x (a.put oi.dst v) w)
    (next : ∀ x f a w, K + rem1 x ≤ f → S w → St' x a w → wpAnyH P md ops Q S f (L' x) a w) :
    ∀ x f a w, K + 1 + rem1 x ≤ f → S w → St x a w → wpAnyH P md ops Q S f (L x) a w := by
  intro x f a w hf' hS hSt
  obtain ⟨f', rfl⟩ : ∃ f', f = f' + 1 := ⟨f - 1, by omega⟩
  obtain ⟨v, hy1, hy2⟩ := hy x a w hS hSt
  refine wpAnyH_take hi hs (hf x) (hr x) (hQ v) hy1 hS ?_
  rw [hc]
  exact next x f' _ w (by omega) hS hy2
theorem main_go1 {L : Bool → Array Bool} {St : Bool → Act → World → Prop} {K : Nat}
    (h : ∀ x f a w, K + rem1 x ≤ f → S w → St x a w → wpAnyH P md ops Q S f (L x) a w) {fuel : Nat} {listed : Array Bool} {a : Act} {w : World} (hl : listed = L false) (hf : K + 1 ≤ fuel) (hS : S w) (hSt : St false a w) : wpAnyH P md ops Q S fuel listed a w := by
  subst hl; exact h false fuel a w hf hS hSt
end
end Go.Proofs.Ythnocibkgpofnaa
