/-
  A region that draws its order, by states: each operation that is ready leads from one state to another.
-/
import Derived.Deep.RegionHeld3
import Derived.Test.YtgpdkodnggpkeaaBase
namespace Go.Proofs.Ytgpdkodnggpkeaa
open Go.RowKit Go.PlainAid
set_option linter.unusedVariables false

section
variable {P : Program} {md : Region.Mode} {ops : Array Oper} {Q : Exit → Act → World → Prop} {S : World → Prop}
theorem any_states {σ : Type} (L : σ → Array Bool) (E : σ → List Nat) (rk : σ → Nat) (ok fin : σ → Bool) (St : σ → Act → World → Prop)
    (hrd : ∀ s, ok s = true → fin s = false → Region.ready md ops (L s) = E s ∧ E s ≠ [] ∧ 0 < rk s)
    (hst : ∀ s i, ok s = true → fin s = false → i ∈ E s → ∃ s', (L s).setIfInBounds i true = L s' ∧ ok s' = true ∧ rk s' < rk s ∧ ∀ a w, S w → St s a w → wpOp P ops Q i (fun a' w' => S w' ∧ St s' a' w') a w)
    (hfi : ∀ s a w f, ok s = true → fin s = true → rk s ≤ f → S w → St s a w → wpAnyH P md ops Q S f (L s) a w) :
    ∀ n s a w f, rk s ≤ n → rk s ≤ f → ok s = true → S w → St s a w → wpAnyH P md ops Q S f (L s) a w := by
  intro n
  induction n with
  | zero =>
    intro s a w f hn hf hok hS hSt
    cases hfs : fin s with
    | true => exact hfi s a w f hok hfs hf hS hSt
    | false => have := (hrd s hok hfs).2.2; omega
  | succ n ih =>
    intro s a w f hn hf hok hS hSt
    cases hfs : fin s with
    | true => exact hfi s a w f hok hfs hf hS hSt
    | false =>
      obtain ⟨h1, h2, h3⟩ := hrd s hok hfs
      obtain ⟨f', rfl⟩ : ∃ f', f = f' + 1 := ⟨f - 1, by omega⟩
      refine ⟨fun h => absurd (h1 ▸ h) h2, fun i hi => ?_⟩
      rw [h1] at hi
      obtain ⟨s', e1, e2, e3, e4⟩ := hst s i hok hfs hi
      exact wpOp_mono (fun a' w' h => ⟨h.1, by rw [e1]; exact ih s' a' w' f' (by omega) (by omega) e2 h.1 h.2⟩) (e4 a w hS hSt)
end
end Go.Proofs.Ytgpdkodnggpkeaa
