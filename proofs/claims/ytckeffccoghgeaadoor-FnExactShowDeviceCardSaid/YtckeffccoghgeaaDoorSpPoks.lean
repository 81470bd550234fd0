/-
  PumpOk of the specification.
-/
import Derived.Test.YtckeffccoghgeaaDoorSpPk1s
import Derived.Test.YtckeffccoghgeaaDoorSpPk2s
import Derived.Test.YtckeffccoghgeaaDoorSpPk3s
import Derived.Test.YtckeffccoghgeaaDoorSpPk4s
namespace Go.Proofs.YtckeffccoghgeaaDoor
open Go.RowKit Go.PlainAid
set_option linter.unusedVariables false
set_option linter.unusedSimpArgs false

theorem pumpokS (p : Pm) (B : Bool) (hB : B = true ↔ p.ok) (w : World) : Calls Tryd.prog 28 #[p.V] w fun e w' => e = .returned (.bool B) ∧ Below w.heap.size w w' := by
  obtain ⟨s, n, d, r, l, b, g, k⟩ := p
  by_cases h1 : s = 1
  · subst h1; exact pumpokS_s1 n d r l b g k B hB w
  by_cases h3 : s = 3
  · subst h3
    by_cases hk : k = 1
    · subst hk; exact pumpokS_s31 n d r l b g B hB w
    · exact pumpokS_s3n n d r l b g k hk B hB w
  exact pumpokS_so s n d r l b g k h1 h3 B hB w
end Go.Proofs.YtckeffccoghgeaaDoor
