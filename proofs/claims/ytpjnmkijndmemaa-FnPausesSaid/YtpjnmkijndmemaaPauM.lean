/-
  The mathematics of pauses: what the orders to pause, to go on and to stop make of a pump.
-/
import Derived.Test.YtpjnmkijndmemaaPmpM
namespace Go.Proofs.Ytpjnmkijndmemaa
open Go.RowKit Go.PlainAid
set_option linter.unusedVariables false

theorem ord3 : OrdR 3 0 0 0 := by unfold OrdR; omega
theorem ord4 : OrdR 4 0 0 0 := by unfold OrdR; omega
theorem ord6 : OrdR 6 0 0 0 := by unfold OrdR; omega
theorem run_k {s n d r l b g k : Int} (h : Pm.ok ⟨s, n, d, r, l, b, g, k⟩) (hs : s = 1 ∨ s = 2) : k = 0 := by
  have h8 : s = 3 ∨ k = 0 := h.2.2.2.2.2.2.2.2
  omega
theorem pau_run {s n d r l b g : Int} (h : Pm.ok ⟨s, n, d, r, l, b, g, 0⟩) (hs : s = 1 ∨ s = 2) : Pm.take ⟨s, n, d, r, l, b, g, 0⟩ 3 0 0 0 = (⟨3, n, d, r, l, b, g, s⟩, true) := by
  unfold Pm.take
  rw [if_pos ⟨ok_yes h, or_yes ord3⟩]
  rcases hs with rfl | rfl <;> simp
theorem pau_ok {s n d r l b g : Int} (h : Pm.ok ⟨s, n, d, r, l, b, g, 0⟩) (hs : s = 1 ∨ s = 2) : Pm.ok ⟨3, n, d, r, l, b, g, s⟩ := by
  have := take_ok h 3 0 0 0
  rw [pau_run h hs] at this
  exact this
theorem pau_not {s n d r l b g k : Int} (h : Pm.ok ⟨s, n, d, r, l, b, g, k⟩) (hs : s = 0 ∨ s = 3) : Pm.take ⟨s, n, d, r, l, b, g, k⟩ 3 0 0 0 = (⟨s, n, d, r, l, b, g, k⟩, false) := by
  unfold Pm.take
  rw [if_pos ⟨ok_yes h, or_yes ord3⟩]
  rcases hs with rfl | rfl <;> simp
theorem pau_back {s n d r l b g : Int} (h : Pm.ok ⟨s, n, d, r, l, b, g, 0⟩) (hs : s = 1 ∨ s = 2) : Pm.take ⟨3, n, d, r, l, b, g, s⟩ 4 0 0 0 = (⟨s, n, d, r, l, b, g, 0⟩, true) := by
  unfold Pm.take
  rw [if_pos ⟨ok_yes (pau_ok h hs), or_yes ord4⟩]
  simp
theorem pau_no {s n d r l b g : Int} (h : Pm.ok ⟨s, n, d, r, l, b, g, 0⟩) (hs : s = 1 ∨ s = 2) : Pm.take ⟨s, n, d, r, l, b, g, 0⟩ 4 0 0 0 = (⟨s, n, d, r, l, b, g, 0⟩, false) := by
  unfold Pm.take
  rw [if_pos ⟨ok_yes h, or_yes ord4⟩]
  rcases hs with rfl | rfl <;> simp
theorem pau_stop {s n d r l b g k : Int} (h : Pm.ok ⟨s, n, d, r, l, b, g, k⟩) : Pm.take ⟨s, n, d, r, l, b, g, k⟩ 6 0 0 0 = (⟨0, n, d, r, 0, 0, g, 0⟩, true) := by
  unfold Pm.take
  rw [if_pos ⟨ok_yes h, or_yes ord6⟩]
  simp
theorem pau_wants0 {n d r l b g k : Int} : Pm.wants ⟨0, n, d, r, l, b, g, k⟩ = 0 := by
  unfold Pm.wants
  simp
theorem pau_wants3 {n d r l b g k : Int} : Pm.wants ⟨3, n, d, r, l, b, g, k⟩ = 0 := by
  unfold Pm.wants
  simp
theorem pau_give3 {n d r l b g k : Int} (q : Int) : Pm.give ⟨3, n, d, r, l, b, g, k⟩ q = ⟨3, n, d, r, l, b, g, k⟩ := by
  unfold Pm.give
  simp
end Go.Proofs.Ytpjnmkijndmemaa
