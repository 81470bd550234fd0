/-
  Ports: which are right, and what carries them.
-/
import Derived.Test.YtphijlknefgkiaaGreatDoorOwnMsP
namespace Go.Proofs.YtphijlknefgkiaaGreatDoor.P
open Go.RowKit Go.PlainAid
set_option linter.unusedVariables false

/-- a port that is right -/
def PortR (k f t m fr : Int) : Prop := (1 ≤ f ∧ f ≤ 4) ∧ (1 ≤ t ∧ t ≤ 4) ∧ f ≠ t ∧ ((k = 1 ∧ (1 ≤ m ∧ m ≤ 6) ∧ fr = 0) ∨ (k = 2 ∧ m = 1 ∧ (1 ≤ fr ∧ fr ≤ 100)))
abbrev PV (k f t m fr : Int) : Value := .agg #[.int .i64 k, .int .i64 f, .int .i64 t, .int .i64 m, .int .i64 fr]
theorem port_bool (k f t m fr : Int) : ∃ b : Bool, b = true ↔ PortR k f t m fr := by
  by_cases h : PortR k f t m fr
  · exact ⟨true, ⟨fun _ => h, fun _ => rfl⟩⟩
  · exact ⟨false, ⟨fun h => (by cases h), fun h' => absurd h' h⟩⟩
theorem port_no {k f t m fr : Int} {b : Bool} (hb : b = true ↔ PortR k f t m fr) (h : ¬ PortR k f t m fr) : b = false := by
  cases b
  · rfl
  · exact absurd (hb.1 rfl) h

theorem partI (n : Int) (b : Bool) (hb : decide (1 ≤ n ∧ n ≤ 4) = b) (w : World) : Calls Tryz.prog 107 #[.int .i64 n] w fun e w' => e = .returned (.bool b) ∧ Below w.heap.size w w' := by
  go_enter Tryz.func107, Tryz.ntmps107
  go_wp2_with fail
  refine (holdsI 1 4 n b hb _).mono ?_
  rintro e w1 ⟨rfl, hb1⟩
  go_wp2
  go_ret
  exact ⟨rfl, hb1⟩

theorem box5_cells {w : World} {k : Nat} {t : TypeId} {x y z u v : Value} (h : w.heap[k]? = some (.cells #[x, y, z, u, v] t)) :
    (w.cell? ⟨k, 0, none⟩ = some x ∧ w.cell? ⟨k, 1, none⟩ = some y ∧ w.cell? ⟨k, 2, none⟩ = some z ∧ w.cell? ⟨k, 3, none⟩ = some u ∧ w.cell? ⟨k, 4, none⟩ = some v) ∧ (w.frozen? ⟨k, 0, none⟩ = false ∧ w.frozen? ⟨k, 1, none⟩ = false ∧ w.frozen? ⟨k, 2, none⟩ = false ∧ w.frozen? ⟨k, 3, none⟩ = false ∧ w.frozen? ⟨k, 4, none⟩ = false) := by
  refine ⟨⟨?_, ?_, ?_, ?_, ?_⟩, ?_, ?_, ?_, ?_, ?_⟩ <;> simp [World.cell?, World.frozen?, h]

theorem queueR (k f t m fr : Int) (b : Bool) (hb : decide ((1 ≤ m ∧ m ≤ 6) ∧ fr = 0) = b) (w : World) : Calls Tryz.prog 148 #[PV k f t m fr] w fun e w' => e = .returned (.bool b) ∧ Below w.heap.size w w' := by
  have HX : Hid (_ = _) := heap_new w (.cells #[.int .i64 k, .int .i64 f, .int .i64 t, .int .i64 m, .int .i64 fr] 189)
  have HW : Hid (Below w.heap.size w (w.alloc (.cells #[.int .i64 k, .int .i64 f, .int .i64 t, .int .i64 m, .int .i64 fr] 189))) := (Below.refl _ _).alloc (Nat.le_refl _) _
  by_cases h1 : 1 ≤ m ∧ m ≤ 6
  · go_enter Tryz.func148, Tryz.ntmps148
    go_wp2_with fail
    refine (holdsI 1 6 m true (by simpa using h1) _).mono ?_
    rintro e w1 ⟨rfl, hb1⟩
    have k1 := box5_cells (row_on HX.out hb1)
    have HW1 : Hid (Below w.heap.size w w1) := HW.out.trans (hb1.mono HW.out.size)
    clear hb1 HX HW
    go_wp2
    go_ret
    refine ⟨?_, HW1.out⟩
    rw [← hb]
    by_cases h2 : fr = 0 <;> simp [h1, h2]
  · go_enter Tryz.func148, Tryz.ntmps148
    go_wp2_with fail
    refine (holdsI 1 6 m false (by simpa using h1) _).mono ?_
    rintro e w1 ⟨rfl, hb1⟩
    have HW1 : Hid (Below w.heap.size w w1) := HW.out.trans (hb1.mono HW.out.size)
    clear hb1 HX HW
    go_wp2
    go_ret
    refine ⟨?_, HW1.out⟩
    rw [← hb, decide_eq_false (fun h => h1 h.1)]; rfl

theorem sampleR (k f t m fr : Int) (b : Bool) (hb : decide (m = 1 ∧ (1 ≤ fr ∧ fr ≤ 100)) = b) (w : World) : Calls Tryz.prog 149 #[PV k f t m fr] w fun e w' => e = .returned (.bool b) ∧ Below w.heap.size w w' := by
  have HW : Hid (Below w.heap.size w (w.alloc (.cells #[.int .i64 k, .int .i64 f, .int .i64 t, .int .i64 m, .int .i64 fr] 190))) := (Below.refl _ _).alloc (Nat.le_refl _) _
  by_cases h1 : m = 1
  · subst h1
    have hb2 : decide (1 ≤ fr ∧ fr ≤ 100) = b := by rw [← hb]; simp
    go_enter Tryz.func149, Tryz.ntmps149
    go_wp2_with fail
    refine (holdsI 1 100 fr b hb2 _).mono ?_
    rintro e w1 ⟨rfl, hb1⟩
    have HW1 : Hid (Below w.heap.size w w1) := HW.out.trans (hb1.mono HW.out.size)
    clear hb1 HW
    go_wp2
    go_ret
    exact ⟨rfl, HW1.out⟩
  · go_enter Tryz.func149, Tryz.ntmps149
    go_wp2
    go_ret
    exact ⟨by rw [← hb, decide_eq_false (fun h => h1 h.1)]; rfl, HW.out⟩

theorem noR (w : World) : Calls Tryz.prog 150 #[.agg #[]] w fun e w' => e = .returned (.bool false) ∧ Below w.heap.size w w' := by
  go_enter Tryz.func150, Tryz.ntmps150
  go_wp2
  go_ret
  exact ⟨rfl, (Below.refl _ _).alloc (Nat.le_refl _) _⟩

theorem carr1 (f t m fr : Int) (w : World) : Calls Tryz.prog 114 #[PV 1 f t m fr] w fun e w' => e = .returned (.iface 189 (PV 1 f t m fr)) ∧ Below w.heap.size w w' := by
  go_enter Tryz.func114, Tryz.ntmps114
  go_wp2
  go_ret
  exact ⟨rfl, (Below.refl _ _).alloc (Nat.le_refl _) _⟩

theorem carr2 (f t m fr : Int) (w : World) : Calls Tryz.prog 114 #[PV 2 f t m fr] w fun e w' => e = .returned (.iface 190 (PV 2 f t m fr)) ∧ Below w.heap.size w w' := by
  go_enter Tryz.func114, Tryz.ntmps114
  go_wp2
  go_ret
  exact ⟨rfl, (Below.refl _ _).alloc (Nat.le_refl _) _⟩

theorem carr0 (k f t m fr : Int) (h1 : ¬ k = 1) (h2 : ¬ k = 2) (w : World) : Calls Tryz.prog 114 #[PV k f t m fr] w fun e w' => e = .returned (.iface 192 (.agg #[])) ∧ Below w.heap.size w w' := by
  go_enter Tryz.func114, Tryz.ntmps114
  go_wp2
  go_ret
  exact ⟨rfl, (Below.refl _ _).alloc (Nat.le_refl _) _⟩
end Go.Proofs.YtphijlknefgkiaaGreatDoor.P
