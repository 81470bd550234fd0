/-
  Small functions of the program's pump.
-/
import Derived.Test.YtckeffccoghgeaaDoorSpTk0s
import Derived.Laws.EntriesVeiled
namespace Go.Proofs.YtckeffccoghgeaaDoor
open Go.RowKit Go.PlainAid
set_option linter.unusedVariables false
set_option linter.unusedSimpArgs false

set_option maxRecDepth 100000 in
set_option maxHeartbeats 1000000 in
theorem volI (s n d r l b g k : Int) (B : Bool) (hB : decide (s = 1 ∨ s = 3 ∧ k = 1) = B) (w : World) : Calls Tryd.prog 53 #[PV s n d r l b g k] w fun e w' => e = .returned (.bool B) ∧ Below w.heap.size w w' := by
  have HB0 : Hid (Below w.heap.size w (w.alloc (PB s n d r l b g k))) := alP _ _
  have HP0 : Hid ((w.alloc (PB s n d r l b g k)).heap[w.heap.size]? = some (PB s n d r l b g k)) := heap_new w _
  have p0 := box8_cells HP0.out
  by_cases h1 : s = 1
  · obtain rfl : B = true := by rw [← hB]; exact decide_eq_true (Or.inl h1)
    subst h1
    clear hB
    go_enter Tryd.func53, Tryd.ntmps53
    go_wp2
    go_ret
    exact ⟨rfl, HB0.out⟩
  have q1 : (s == 1) = false := by simpa using h1
  by_cases h3 : s = 3
  · by_cases hk : k = 1
    · obtain rfl : B = true := by rw [← hB]; exact decide_eq_true (Or.inr ⟨h3, hk⟩)
      subst h3
      subst hk
      clear hB
      go_enter Tryd.func53, Tryd.ntmps53
      go_wp2
      go_ret
      exact ⟨rfl, HB0.out⟩
    · obtain rfl : B = false := by rw [← hB]; exact decide_eq_false (by omega)
      have qk : (k == 1) = false := by simpa using hk
      subst h3
      clear hB
      go_enter Tryd.func53, Tryd.ntmps53
      go_wp2
      go_ret
      exact ⟨rfl, HB0.out⟩
  have q3 : (s == 3) = false := by simpa using h3
  obtain rfl : B = false := by rw [← hB]; exact decide_eq_false (by omega)
  clear hB
  go_enter Tryd.func53, Tryd.ntmps53
  go_wp2
  go_ret
  exact ⟨rfl, HB0.out⟩
set_option maxRecDepth 100000 in
set_option maxHeartbeats 1000000 in
theorem backI (s n d r l b g k : Int) (B : Bool) (hB : decide ((s = 3 ∧ 0 ≤ k ∧ k ≤ 2) ∨ (¬ s = 3 ∧ k = 0)) = B) (w : World) : Calls Tryd.prog 54 #[PV s n d r l b g k] w fun e w' => e = .returned (.bool B) ∧ Below w.heap.size w w' := by
  have HB0 : Hid (Below w.heap.size w (w.alloc (PB s n d r l b g k))) := alP _ _
  have HP0 : Hid ((w.alloc (PB s n d r l b g k)).heap[w.heap.size]? = some (PB s n d r l b g k)) := heap_new w _
  have p0 := box8_cells HP0.out
  by_cases h3 : s = 3
  · have HD : Hid (decide (0 ≤ k ∧ k ≤ 2) = B) := by
      show _ = _
      rw [← hB]
      by_cases h : 0 ≤ k ∧ k ≤ 2
      · rw [decide_eq_true h, decide_eq_true (Or.inl ⟨h3, h⟩)]
      · rw [decide_eq_false h, decide_eq_false (by omega)]
    subst h3
    clear hB
    go_enter Tryd.func54, Tryd.ntmps54
    go_wp2_with fail
    refine (holdsI 0 2 k B HD.out _).mono ?_
    rintro e w1 ⟨rfl, hb1⟩
    have HB1 : Hid (Below w.heap.size w w1) := bel_on (Nat.le_refl _) HB0.out hb1
    clear hb1
    go_wp2
    go_ret
    exact ⟨rfl, HB1.out⟩
  have q3 : (s != 3) = true := by simpa using h3
  by_cases hk : k = 0
  · obtain rfl : B = true := by rw [← hB]; exact decide_eq_true (Or.inr ⟨h3, hk⟩)
    subst hk
    clear hB
    go_enter Tryd.func54, Tryd.ntmps54
    go_wp2
    go_ret
    exact ⟨rfl, HB0.out⟩
  · obtain rfl : B = false := by rw [← hB]; exact decide_eq_false (by omega)
    have qk : (k == 0) = false := by simpa using hk
    clear hB
    go_enter Tryd.func54, Tryd.ntmps54
    go_wp2
    go_ret
    exact ⟨rfl, HB0.out⟩
end Go.Proofs.YtckeffccoghgeaaDoor

namespace Go.Proofs.YtckeffccoghgeaaDoor
open Go.RowKit Go.PlainAid
set_option linter.unusedVariables false
set_option linter.unusedSimpArgs false

/-- a boxed pump behind what only grew -/
def KP (w w' : World) (o : Obj) : Prop := w'.heap[w.heap.size]? = some o ∧ Below w.heap.size w w'
theorem KP.on {w w' w2 : World} {x0 x1 x2 x3 x4 x5 x6 x7 : Value} {T : TypeId} (h : KP w w' (.cells #[x0, x1, x2, x3, x4, x5, x6, x7] T)) (hb : Below w'.heap.size w' w2) : KP w w2 (.cells #[x0, x1, x2, x3, x4, x5, x6, x7] T) := ⟨row_on h.1 hb, bel_on (Nat.le_refl _) h.2 hb⟩
theorem kp_conj {w w' : World} {x0 x1 x2 x3 x4 x5 x6 x7 : Value} {T : TypeId} (h : KP w w' (.cells #[x0, x1, x2, x3, x4, x5, x6, x7] T)) :
    w'.cell? ⟨w.heap.size, 0, none⟩ = some x0 ∧ w'.cell? ⟨w.heap.size, 1, none⟩ = some x1 ∧ w'.cell? ⟨w.heap.size, 2, none⟩ = some x2 ∧ w'.cell? ⟨w.heap.size, 3, none⟩ = some x3 ∧ w'.cell? ⟨w.heap.size, 4, none⟩ = some x4 ∧ w'.cell? ⟨w.heap.size, 5, none⟩ = some x5 ∧ w'.cell? ⟨w.heap.size, 6, none⟩ = some x6 ∧ w'.cell? ⟨w.heap.size, 7, none⟩ = some x7 ∧ KP w w' (.cells #[x0, x1, x2, x3, x4, x5, x6, x7] T) := by
  obtain ⟨⟨a0, a1, a2, a3, a4, a5, a6, a7⟩, _⟩ := box8_cells h.1
  exact ⟨a0, a1, a2, a3, a4, a5, a6, a7, h⟩
end Go.Proofs.YtckeffccoghgeaaDoor
