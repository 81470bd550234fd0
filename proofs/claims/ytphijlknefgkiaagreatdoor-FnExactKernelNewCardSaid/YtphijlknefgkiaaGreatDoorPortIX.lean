/-
  PortOk of the program and of the specification: right ports are told, others are not.
-/
import Derived.Test.YtphijlknefgkiaaGreatDoorPortP
namespace Go.Proofs.YtphijlknefgkiaaGreatDoor.P
open Go.RowKit Go.PlainAid
set_option linter.unusedVariables false

set_option maxRecDepth 100000 in
set_option maxHeartbeats 1000000 in
theorem portokI (k f t m fr : Int) (b : Bool) (hb : b = true ↔ PortR k f t m fr) (w : World) : Calls Tryz.prog 109 #[PV k f t m fr] w fun e w' => e = .returned (.bool b) ∧ Below w.heap.size w w' := by
  have HX0 : Hid (_ = _) := heap_new w (.cells #[.int .i64 k, .int .i64 f, .int .i64 t, .int .i64 m, .int .i64 fr] 88)
  have HW0 : Hid (Below w.heap.size w (w.alloc (.cells #[.int .i64 k, .int .i64 f, .int .i64 t, .int .i64 m, .int .i64 fr] 88))) := (Below.refl _ _).alloc (Nat.le_refl _) _
  by_cases hf : 1 ≤ f ∧ f ≤ 4
  · by_cases ht : 1 ≤ t ∧ t ≤ 4
    · by_cases hne : f = t
      · obtain rfl := port_no hb (fun h => h.2.2.1 hne)
        subst hne
        clear hb ht
        have hq : (f != f) = false := by simp
        go_enter Tryz.func109, Tryz.ntmps109
        go_wp2_with fail
        refine (partI f true (by simpa using hf) _).mono ?_
        rintro e w1 ⟨rfl, hb1⟩
        have HX1 : Hid (_ = _) := row_on HX0.out hb1
        have HW1 : Hid (Below w.heap.size w w1) := HW0.out.trans (hb1.mono HW0.out.size)
        clear hb1 HX0 HW0
        have k1 := box5_cells HX1.out
        go_wp2_with fail
        clear k1
        refine (partI f true (by simpa using hf) _).mono ?_
        rintro e w2 ⟨rfl, hb2⟩
        have HX2 : Hid (_ = _) := row_on HX1.out hb2
        have HW2 : Hid (Below w.heap.size w w2) := HW1.out.trans (hb2.mono HW1.out.size)
        clear hb2 HX1 HW1
        have k2 := box5_cells HX2.out
        go_wp2
        go_ret
        exact ⟨rfl, HW2.out⟩
      · by_cases q1 : k = 1
        · subst q1
          have hb' : decide ((1 ≤ m ∧ m ≤ 6) ∧ fr = 0) = b := by
            cases b
            · exact decide_eq_false (fun h => by have := hb.2 ⟨hf, ht, hne, .inl ⟨rfl, h⟩⟩; cases this)
            · exact decide_eq_true (by rcases (hb.1 rfl).2.2.2 with h | h; exact h.2; exact absurd h.1 (by decide))
          clear hb
          go_enter Tryz.func109, Tryz.ntmps109
          go_wp2_with fail
          refine (partI f true (by simpa using hf) _).mono ?_
          rintro e w1 ⟨rfl, hb1⟩
          have HX1 : Hid (_ = _) := row_on HX0.out hb1
          have HW1 : Hid (Below w.heap.size w w1) := HW0.out.trans (hb1.mono HW0.out.size)
          clear hb1 HX0 HW0
          have k1 := box5_cells HX1.out
          go_wp2_with fail
          clear k1
          refine (partI t true (by simpa using ht) _).mono ?_
          rintro e w2 ⟨rfl, hb2⟩
          have HX2 : Hid (_ = _) := row_on HX1.out hb2
          have HW2 : Hid (Below w.heap.size w w2) := HW1.out.trans (hb2.mono HW1.out.size)
          clear hb2 HX1 HW1
          have k2 := box5_cells HX2.out
          go_wp2_with fail
          clear k2
          refine (carr1 f t m fr _).mono ?_
          rintro e w3 ⟨rfl, hb3⟩
          have HW3 : Hid (Below w.heap.size w w3) := HW2.out.trans (hb3.mono HW2.out.size)
          clear hb3 HX2 HW2
          go_wp2_with fail
          refine (queueR 1 f t m fr b hb' _).mono ?_
          rintro e w4 ⟨rfl, hb4⟩
          have HW4 : Hid (Below w.heap.size w w4) := HW3.out.trans (hb4.mono HW3.out.size)
          clear hb4 HW3
          go_wp2
          go_ret
          exact ⟨by first | rfl | simp [hne], HW4.out⟩
        · by_cases q2 : k = 2
          · subst q2
            have hb' : decide (m = 1 ∧ (1 ≤ fr ∧ fr ≤ 100)) = b := by
              cases b
              · exact decide_eq_false (fun h => by have := hb.2 ⟨hf, ht, hne, .inr ⟨rfl, h⟩⟩; cases this)
              · exact decide_eq_true (by rcases (hb.1 rfl).2.2.2 with h | h; exact absurd h.1 (by decide); exact h.2)
            clear hb q1
            go_enter Tryz.func109, Tryz.ntmps109
            go_wp2_with fail
            refine (partI f true (by simpa using hf) _).mono ?_
            rintro e w1 ⟨rfl, hb1⟩
            have HX1 : Hid (_ = _) := row_on HX0.out hb1
            have HW1 : Hid (Below w.heap.size w w1) := HW0.out.trans (hb1.mono HW0.out.size)
            clear hb1 HX0 HW0
            have k1 := box5_cells HX1.out
            go_wp2_with fail
            clear k1
            refine (partI t true (by simpa using ht) _).mono ?_
            rintro e w2 ⟨rfl, hb2⟩
            have HX2 : Hid (_ = _) := row_on HX1.out hb2
            have HW2 : Hid (Below w.heap.size w w2) := HW1.out.trans (hb2.mono HW1.out.size)
            clear hb2 HX1 HW1
            have k2 := box5_cells HX2.out
            go_wp2_with fail
            clear k2
            refine (carr2 f t m fr _).mono ?_
            rintro e w3 ⟨rfl, hb3⟩
            have HW3 : Hid (Below w.heap.size w w3) := HW2.out.trans (hb3.mono HW2.out.size)
            clear hb3 HX2 HW2
            go_wp2_with fail
            refine (sampleR 2 f t m fr b hb' _).mono ?_
            rintro e w4 ⟨rfl, hb4⟩
            have HW4 : Hid (Below w.heap.size w w4) := HW3.out.trans (hb4.mono HW3.out.size)
            clear hb4 HW3
            go_wp2
            go_ret
            exact ⟨by first | rfl | simp [hne], HW4.out⟩
          · obtain rfl := port_no hb (fun h => by rcases h.2.2.2 with h | h; exact q1 h.1; exact q2 h.1)
            clear hb
            go_enter Tryz.func109, Tryz.ntmps109
            go_wp2_with fail
            refine (partI f true (by simpa using hf) _).mono ?_
            rintro e w1 ⟨rfl, hb1⟩
            have HX1 : Hid (_ = _) := row_on HX0.out hb1
            have HW1 : Hid (Below w.heap.size w w1) := HW0.out.trans (hb1.mono HW0.out.size)
            clear hb1 HX0 HW0
            have k1 := box5_cells HX1.out
            go_wp2_with fail
            clear k1
            refine (partI t true (by simpa using ht) _).mono ?_
            rintro e w2 ⟨rfl, hb2⟩
            have HX2 : Hid (_ = _) := row_on HX1.out hb2
            have HW2 : Hid (Below w.heap.size w w2) := HW1.out.trans (hb2.mono HW1.out.size)
            clear hb2 HX1 HW1
            have k2 := box5_cells HX2.out
            go_wp2_with fail
            clear k2
            refine (carr0 k f t m fr q1 q2 _).mono ?_
            rintro e w3 ⟨rfl, hb3⟩
            have HW3 : Hid (Below w.heap.size w w3) := HW2.out.trans (hb3.mono HW2.out.size)
            clear hb3 HX2 HW2
            go_wp2_with fail
            refine (noR _).mono ?_
            rintro e w4 ⟨rfl, hb4⟩
            have HW4 : Hid (Below w.heap.size w w4) := HW3.out.trans (hb4.mono HW3.out.size)
            clear hb4 HW3
            go_wp2
            go_ret
            exact ⟨by first | rfl | simp [hne], HW4.out⟩
    · obtain rfl := port_no hb (fun h => ht h.2.1)
      clear hb
      go_enter Tryz.func109, Tryz.ntmps109
      go_wp2_with fail
      refine (partI f true (by simpa using hf) _).mono ?_
      rintro e w1 ⟨rfl, hb1⟩
      have HX1 : Hid (_ = _) := row_on HX0.out hb1
      have HW1 : Hid (Below w.heap.size w w1) := HW0.out.trans (hb1.mono HW0.out.size)
      clear hb1 HX0 HW0
      have k1 := box5_cells HX1.out
      go_wp2_with fail
      clear k1
      refine (partI t false (by simpa using ht) _).mono ?_
      rintro e w2 ⟨rfl, hb2⟩
      have HX2 : Hid (_ = _) := row_on HX1.out hb2
      have HW2 : Hid (Below w.heap.size w w2) := HW1.out.trans (hb2.mono HW1.out.size)
      clear hb2 HX1 HW1
      go_wp2
      go_ret
      exact ⟨rfl, HW2.out⟩
  · obtain rfl := port_no hb (fun h => hf h.1)
    clear hb
    go_enter Tryz.func109, Tryz.ntmps109
    go_wp2_with fail
    refine (partI f false (by simpa using hf) _).mono ?_
    rintro e w1 ⟨rfl, hb1⟩
    have HX1 : Hid (_ = _) := row_on HX0.out hb1
    have HW1 : Hid (Below w.heap.size w w1) := HW0.out.trans (hb1.mono HW0.out.size)
    clear hb1 HX0 HW0
    go_wp2
    go_ret
    exact ⟨rfl, HW1.out⟩

set_option maxRecDepth 100000 in
set_option maxHeartbeats 1000000 in
theorem portokS (k f t m fr : Int) (b : Bool) (hb : b = true ↔ PortR k f t m fr) (w : World) : Calls Tryz.prog 57 #[PV k f t m fr] w fun e w' => e = .returned (.bool b) ∧ Below w.heap.size w w' := by
  have HW0 : Hid (Below w.heap.size w (w.alloc (.cells #[.int .i64 k, .int .i64 f, .int .i64 t, .int .i64 m, .int .i64 fr] 88))) := (Below.refl _ _).alloc (Nat.le_refl _) _
  by_cases hf : 1 ≤ f ∧ f ≤ 4
  · by_cases ht : 1 ≤ t ∧ t ≤ 4
    · by_cases hne : f = t
      · obtain rfl := port_no hb (fun h => h.2.2.1 hne)
        subst hne
        clear hb ht
        go_enter Tryz.func57, Tryz.ntmps57
        go_wp2_with fail
        refine (inS 1 4 f true (by simpa using hf) _).mono ?_
        rintro e wx ⟨rfl, hwx⟩
        have hwy := hwx.symm
        subst hwy
        clear hwx
        go_wp2_with fail
        refine (inS 1 4 f true (by simpa using hf) _).mono ?_
        rintro e wx ⟨rfl, hwx⟩
        have hwy := hwx.symm
        subst hwy
        clear hwx
        go_wp2
        go_ret
        exact ⟨rfl, HW0.out⟩
      · by_cases q1 : k = 1
        · subst q1
          by_cases hm : 1 ≤ m ∧ m ≤ 6
          · have hb' : decide (fr = 0) = b := by
              cases b
              · exact decide_eq_false (fun h => by have := hb.2 ⟨hf, ht, hne, .inl ⟨rfl, hm, h⟩⟩; cases this)
              · exact decide_eq_true (by rcases (hb.1 rfl).2.2.2 with h | h; exact h.2.2; exact absurd h.1 (by decide))
            clear hb
            go_enter Tryz.func57, Tryz.ntmps57
            go_wp2_with fail
            refine (inS 1 4 f true (by simpa using hf) _).mono ?_
            rintro e wx ⟨rfl, hwx⟩
            have hwy := hwx.symm
            subst hwy
            clear hwx
            go_wp2_with fail
            refine (inS 1 4 t true (by simpa using ht) _).mono ?_
            rintro e wx ⟨rfl, hwx⟩
            have hwy := hwx.symm
            subst hwy
            clear hwx
            go_wp2_with fail
            refine (inS 1 6 m true (by simpa using hm) _).mono ?_
            rintro e wx ⟨rfl, hwx⟩
            have hwy := hwx.symm
            subst hwy
            clear hwx
            go_wp2
            go_ret
            refine ⟨?_, HW0.out⟩
            rw [← hb']
            by_cases h2 : fr = 0 <;> simp [h2]
          · obtain rfl := port_no hb (fun h => by rcases h.2.2.2 with h | h; exact hm h.2.1; exact absurd h.1 (by decide))
            clear hb
            go_enter Tryz.func57, Tryz.ntmps57
            go_wp2_with fail
            refine (inS 1 4 f true (by simpa using hf) _).mono ?_
            rintro e wx ⟨rfl, hwx⟩
            have hwy := hwx.symm
            subst hwy
            clear hwx
            go_wp2_with fail
            refine (inS 1 4 t true (by simpa using ht) _).mono ?_
            rintro e wx ⟨rfl, hwx⟩
            have hwy := hwx.symm
            subst hwy
            clear hwx
            go_wp2_with fail
            refine (inS 1 6 m false (by simpa using hm) _).mono ?_
            rintro e wx ⟨rfl, hwx⟩
            have hwy := hwx.symm
            subst hwy
            clear hwx
            go_wp2
            go_ret
            exact ⟨rfl, HW0.out⟩
        · by_cases q2 : k = 2
          · subst q2
            by_cases hm : m = 1
            · subst hm
              have hb' : decide (1 ≤ fr ∧ fr ≤ 100) = b := by
                cases b
                · exact decide_eq_false (fun h => by have := hb.2 ⟨hf, ht, hne, .inr ⟨rfl, rfl, h⟩⟩; cases this)
                · exact decide_eq_true (by rcases (hb.1 rfl).2.2.2 with h | h; exact absurd h.1 (by decide); exact h.2.2)
              clear hb q1
              go_enter Tryz.func57, Tryz.ntmps57
              go_wp2_with fail
              refine (inS 1 4 f true (by simpa using hf) _).mono ?_
              rintro e wx ⟨rfl, hwx⟩
              have hwy := hwx.symm
              subst hwy
              clear hwx
              go_wp2_with fail
              refine (inS 1 4 t true (by simpa using ht) _).mono ?_
              rintro e wx ⟨rfl, hwx⟩
              have hwy := hwx.symm
              subst hwy
              clear hwx
              go_wp2_with fail
              refine (inS 1 100 fr b hb' _).mono ?_
              rintro e wx ⟨rfl, hwx⟩
              have hwy := hwx.symm
              subst hwy
              clear hwx
              go_wp2
              go_ret
              exact ⟨rfl, HW0.out⟩
            · obtain rfl := port_no hb (fun h => by rcases h.2.2.2 with h | h; exact absurd h.1 (by decide); exact hm h.2.1)
              clear hb q1
              go_enter Tryz.func57, Tryz.ntmps57
              go_wp2_with fail
              refine (inS 1 4 f true (by simpa using hf) _).mono ?_
              rintro e wx ⟨rfl, hwx⟩
              have hwy := hwx.symm
              subst hwy
              clear hwx
              go_wp2_with fail
              refine (inS 1 4 t true (by simpa using ht) _).mono ?_
              rintro e wx ⟨rfl, hwx⟩
              have hwy := hwx.symm
              subst hwy
              clear hwx
              go_wp2
              go_ret
              exact ⟨rfl, HW0.out⟩
          · obtain rfl := port_no hb (fun h => by rcases h.2.2.2 with h | h; exact q1 h.1; exact q2 h.1)
            clear hb
            go_enter Tryz.func57, Tryz.ntmps57
            go_wp2_with fail
            refine (inS 1 4 f true (by simpa using hf) _).mono ?_
            rintro e wx ⟨rfl, hwx⟩
            have hwy := hwx.symm
            subst hwy
            clear hwx
            go_wp2_with fail
            refine (inS 1 4 t true (by simpa using ht) _).mono ?_
            rintro e wx ⟨rfl, hwx⟩
            have hwy := hwx.symm
            subst hwy
            clear hwx
            go_wp2
            go_ret
            exact ⟨rfl, HW0.out⟩
    · obtain rfl := port_no hb (fun h => ht h.2.1)
      clear hb
      go_enter Tryz.func57, Tryz.ntmps57
      go_wp2_with fail
      refine (inS 1 4 f true (by simpa using hf) _).mono ?_
      rintro e wx ⟨rfl, hwx⟩
      have hwy := hwx.symm
      subst hwy
      clear hwx
      go_wp2_with fail
      refine (inS 1 4 t false (by simpa using ht) _).mono ?_
      rintro e wx ⟨rfl, hwx⟩
      have hwy := hwx.symm
      subst hwy
      clear hwx
      go_wp2
      go_ret
      exact ⟨rfl, HW0.out⟩
  · obtain rfl := port_no hb (fun h => hf h.1)
    clear hb
    go_enter Tryz.func57, Tryz.ntmps57
    go_wp2_with fail
    refine (inS 1 4 f false (by simpa using hf) _).mono ?_
    rintro e wx ⟨rfl, hwx⟩
    have hwy := hwx.symm
    subst hwy
    clear hwx
    go_wp2
    go_ret
    exact ⟨rfl, HW0.out⟩
end Go.Proofs.YtphijlknefgkiaaGreatDoor.P
