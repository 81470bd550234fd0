/-
  PumpOk of the program.
-/
import Derived.Test.YtckeffccoghgeaaDoorPmIk1s
import Derived.Test.YtckeffccoghgeaaDoorPmIk2s
import Derived.Test.YtckeffccoghgeaaDoorPmIk3s
import Derived.Test.YtckeffccoghgeaaDoorPmIk4s
import Derived.Test.YtckeffccoghgeaaDoorPmIk5s
namespace Go.Proofs.YtckeffccoghgeaaDoor
open Go.RowKit Go.PlainAid
set_option linter.unusedVariables false
set_option linter.unusedSimpArgs false

theorem pumpokI (p : Pm) (B : Bool) (hB : B = true ↔ p.ok) (w : World) : Calls Tryd.prog 38 #[p.V] w fun e w' => e = .returned (.bool B) ∧ Below w.heap.size w w' := by
  obtain ⟨s, n, d, r, l, b, g, k⟩ := p
  by_cases h1 : 0 ≤ s ∧ s ≤ 3
  case neg =>
    obtain rfl : B = false := pm_no (p := ⟨s, n, d, r, l, b, g, k⟩) hB (fun h => by unfold Pm.ok ratR at h; dsimp only at h; omega)
    exact pumpokI_1 s n d r l b g k (decide_eq_false h1) w
  have D1 : Hid (decide (0 ≤ s ∧ s ≤ 3) = true) := decide_eq_true h1
  by_cases h2 : ratR n d r
  case neg =>
    obtain rfl : B = false := pm_no (p := ⟨s, n, d, r, l, b, g, k⟩) hB (fun h => h2 h.2.1)
    have e2 : rateOk n d r = false := rat_no h2
    exact pumpokI_2 s n d r l b g k D1 (fun w => by have h := rateI n d r w; rw [e2] at h; exact h) w
  have e2 : rateOk n d r = true := rat_yes h2
  have KR : Hid (∀ w, Calls Tryd.prog 52 #[.agg #[.int .i64 n, .int .i64 d, .int .i64 r]] w fun e w' => e = .returned (.bool true) ∧ Below w.heap.size w w') := fun w => by have h := rateI n d r w; rw [e2] at h; exact h
  have h2' := h2
  unfold ratR at h2'
  have hw : IntKind.i64.wrap (d * 3) = d * 3 := wrap_in (by omega) (by omega)
  by_cases h3 : n ≤ d * 3
  case neg =>
    obtain rfl : B = false := pm_no (p := ⟨s, n, d, r, l, b, g, k⟩) hB (fun h => by unfold Pm.ok ratR at h; dsimp only at h; omega)
    exact pumpokI_3 s n d r l b g k D1 KR hw (decide_eq_false h3) w
  have D3 := decide_eq_true h3
  by_cases h4 : 0 ≤ l ∧ l ≤ 5000
  case neg =>
    obtain rfl : B = false := pm_no (p := ⟨s, n, d, r, l, b, g, k⟩) hB (fun h => by unfold Pm.ok ratR at h; dsimp only at h; omega)
    exact pumpokI_4 s n d r l b g k D1 KR hw D3 (decide_eq_false h4) w
  have D4 : Hid (decide (0 ≤ l ∧ l ≤ 5000) = true) := decide_eq_true h4
  by_cases h5 : s = 1 ∨ s = 3 ∧ k = 1
  · have D5 : Hid (decide (s = 1 ∨ s = 3 ∧ k = 1) = true) := decide_eq_true h5
    by_cases hl : 0 < l
    case neg =>
      obtain rfl : B = false := pm_no (p := ⟨s, n, d, r, l, b, g, k⟩) hB (fun h => by unfold Pm.ok ratR at h; dsimp only at h; omega)
      exact pumpokI_5t s n d r l b g k D1 KR hw D3 D4 (decide_eq_false hl) D5 w
    have Dl := decide_eq_true hl
    by_cases h6 : 0 ≤ b ∧ b ≤ 100
    case neg =>
      obtain rfl : B = false := pm_no (p := ⟨s, n, d, r, l, b, g, k⟩) hB (fun h => by unfold Pm.ok ratR at h; dsimp only at h; omega)
      exact pumpokI_6t s n d r l b g k D1 KR hw D3 D4 Dl D5 (decide_eq_false h6) w
    have D6 : Hid (decide (0 ≤ b ∧ b ≤ 100) = true) := decide_eq_true h6
    by_cases h7 : 0 ≤ g ∧ g ≤ 1000000000000
    case neg =>
      obtain rfl : B = false := pm_no (p := ⟨s, n, d, r, l, b, g, k⟩) hB (fun h => by unfold Pm.ok ratR at h; dsimp only at h; omega)
      exact pumpokI_7t s n d r l b g k D1 KR hw D3 D4 Dl D5 D6 (decide_eq_false h7) w
    have D7 : Hid (decide (0 ≤ g ∧ g ≤ 1000000000000) = true) := decide_eq_true h7
    by_cases h8 : (s = 3 ∧ 0 ≤ k ∧ k ≤ 2) ∨ (¬ s = 3 ∧ k = 0)
    case neg =>
      obtain rfl : B = false := pm_no (p := ⟨s, n, d, r, l, b, g, k⟩) hB (fun h => by unfold Pm.ok ratR at h; dsimp only at h; omega)
      exact pumpokI_8t s n d r l b g k D1 KR hw D3 D4 Dl D5 D6 D7 (decide_eq_false h8) w
    have D8 : Hid (decide ((s = 3 ∧ 0 ≤ k ∧ k ≤ 2) ∨ (¬ s = 3 ∧ k = 0)) = true) := decide_eq_true h8
    obtain rfl : B = true := pm_yes (p := ⟨s, n, d, r, l, b, g, k⟩) hB (by unfold Pm.ok; dsimp only; exact ⟨by omega, h2, by omega, by omega, by omega, by omega, by omega, by omega, by omega⟩)
    exact pumpokI_0t s n d r l b g k D1 KR hw D3 D4 Dl D5 D6 D7 D8 w
  · have D5 : Hid (decide (s = 1 ∨ s = 3 ∧ k = 1) = false) := decide_eq_false h5
    by_cases hl : 0 < l
    case pos =>
      obtain rfl : B = false := pm_no (p := ⟨s, n, d, r, l, b, g, k⟩) hB (fun h => by unfold Pm.ok ratR at h; dsimp only at h; omega)
      exact pumpokI_5f s n d r l b g k D1 KR hw D3 D4 (decide_eq_true hl) D5 w
    have Dl := decide_eq_false hl
    by_cases h6 : 0 ≤ b ∧ b ≤ 100
    case neg =>
      obtain rfl : B = false := pm_no (p := ⟨s, n, d, r, l, b, g, k⟩) hB (fun h => by unfold Pm.ok ratR at h; dsimp only at h; omega)
      exact pumpokI_6f s n d r l b g k D1 KR hw D3 D4 Dl D5 (decide_eq_false h6) w
    have D6 : Hid (decide (0 ≤ b ∧ b ≤ 100) = true) := decide_eq_true h6
    by_cases h7 : 0 ≤ g ∧ g ≤ 1000000000000
    case neg =>
      obtain rfl : B = false := pm_no (p := ⟨s, n, d, r, l, b, g, k⟩) hB (fun h => by unfold Pm.ok ratR at h; dsimp only at h; omega)
      exact pumpokI_7f s n d r l b g k D1 KR hw D3 D4 Dl D5 D6 (decide_eq_false h7) w
    have D7 : Hid (decide (0 ≤ g ∧ g ≤ 1000000000000) = true) := decide_eq_true h7
    by_cases h8 : (s = 3 ∧ 0 ≤ k ∧ k ≤ 2) ∨ (¬ s = 3 ∧ k = 0)
    case neg =>
      obtain rfl : B = false := pm_no (p := ⟨s, n, d, r, l, b, g, k⟩) hB (fun h => by unfold Pm.ok ratR at h; dsimp only at h; omega)
      exact pumpokI_8f s n d r l b g k D1 KR hw D3 D4 Dl D5 D6 D7 (decide_eq_false h8) w
    have D8 : Hid (decide ((s = 3 ∧ 0 ≤ k ∧ k ≤ 2) ∨ (¬ s = 3 ∧ k = 0)) = true) := decide_eq_true h8
    obtain rfl : B = true := pm_yes (p := ⟨s, n, d, r, l, b, g, k⟩) hB (by unfold Pm.ok; dsimp only; exact ⟨by omega, h2, by omega, by omega, by omega, by omega, by omega, by omega, by omega⟩)
    exact pumpokI_0f s n d r l b g k D1 KR hw D3 D4 Dl D5 D6 D7 D8 w
end Go.Proofs.YtckeffccoghgeaaDoor
