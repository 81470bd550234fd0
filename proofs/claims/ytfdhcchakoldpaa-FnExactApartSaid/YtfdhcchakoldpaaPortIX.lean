/-
  PortOk of the program and of the specification: right ports are told, others are not.
-/
import Derived.Test.YtfdhcchakoldpaaPortP
namespace Go.Proofs.Ytfdhcchakoldpaa.P
open Go.RowKit Go.PlainAid
set_option linter.unusedVariables false

set_option maxRecDepth 100000 in
set_option maxHeartbeats 1000000 in
theorem portokS (k f t m fr : Int) (b : Bool) (hb : b = true ↔ PortR k f t m fr) (w : World) : Calls Try.prog 143 #[PV k f t m fr] w fun e w' => e = .returned (.bool b) ∧ Below w.heap.size w w' := by
  have HW0 : Hid (Below w.heap.size w (w.alloc (.cells #[.int .i64 k, .int .i64 f, .int .i64 t, .int .i64 m, .int .i64 fr] 168))) := (Below.refl _ _).alloc (Nat.le_refl _) _
  by_cases hf : 1 ≤ f ∧ f ≤ 4
  · by_cases ht : 1 ≤ t ∧ t ≤ 4
    · by_cases hne : f = t
      · obtain rfl := port_no hb (fun h => h.2.2.1 hne)
        subst hne
        clear hb ht
        go_enter Try.func143, Try.ntmps143
        go_wp2_with fail
        refine (inS 1 4 f true (by simpa using hf) _).mono ?_
        rintro e wx ⟨rfl, hwx⟩
        have hwy := hwx.symm
        subst hwy
        clear hwx
        go_wp2_with fail
        refine (inS 1 4 f true (by simpa using hf) _).mono ?_
        rintro e wx ⟨rfl, hwx⟩
        have hwy := hwx.symm
        subst hwy
        clear hwx
        go_wp2
        go_ret
        exact ⟨rfl, HW0.out⟩
      · by_cases q1 : k = 1
        · subst q1
          by_cases hm : 1 ≤ m ∧ m ≤ 6
          · have hb' : decide (fr = 0) = b := by
              cases b
              · exact decide_eq_false (fun h => by have := hb.2 ⟨hf, ht, hne, .inl ⟨rfl, hm, h⟩⟩; cases this)
              · exact decide_eq_true (by rcases (hb.1 rfl).2.2.2 with h | h; exact h.2.2; exact absurd h.1 (by decide))
            clear hb
            go_enter Try.func143, Try.ntmps143
            go_wp2_with fail
            refine (inS 1 4 f true (by simpa using hf) _).mono ?_
            rintro e wx ⟨rfl, hwx⟩
            have hwy := hwx.symm
            subst hwy
            clear hwx
            go_wp2_with fail
            refine (inS 1 4 t true (by simpa using ht) _).mono ?_
            rintro e wx ⟨rfl, hwx⟩
            have hwy := hwx.symm
            subst hwy
            clear hwx
            go_wp2_with fail
            refine (inS 1 6 m true (by simpa using hm) _).mono ?_
            rintro e wx ⟨rfl, hwx⟩
            have hwy := hwx.symm
            subst hwy
            clear hwx
            go_wp2
            go_ret
            refine ⟨?_, HW0.out⟩
            rw [← hb']
            by_cases h2 : fr = 0 <;> simp [h2]
          · obtain rfl := port_no hb (fun h => by rcases h.2.2.2 with h | h; exact hm h.2.1; exact absurd h.1 (by decide))
            clear hb
            go_enter Try.func143, Try.ntmps143
            go_wp2_with fail
            refine (inS 1 4 f true (by simpa using hf) _).mono ?_
            rintro e wx ⟨rfl, hwx⟩
            have hwy := hwx.symm
            subst hwy
            clear hwx
            go_wp2_with fail
            refine (inS 1 4 t true (by simpa using ht) _).mono ?_
            rintro e wx ⟨rfl, hwx⟩
            have hwy := hwx.symm
            subst hwy
            clear hwx
            go_wp2_with fail
            refine (inS 1 6 m false (by simpa using hm) _).mono ?_
            rintro e wx ⟨rfl, hwx⟩
            have hwy := hwx.symm
            subst hwy
            clear hwx
            go_wp2
            go_ret
            exact ⟨rfl, HW0.out⟩
        · by_cases q2 : k = 2
          · subst q2
            by_cases hm : m = 1
            · subst hm
              have hb' : decide (1 ≤ fr ∧ fr ≤ 100) = b := by
                cases b
                · exact decide_eq_false (fun h => by have := hb.2 ⟨hf, ht, hne, .inr ⟨rfl, rfl, h⟩⟩; cases this)
                · exact decide_eq_true (by rcases (hb.1 rfl).2.2.2 with h | h; exact absurd h.1 (by decide); exact h.2.2)
              clear hb q1
              go_enter Try.func143, Try.ntmps143
              go_wp2_with fail
              refine (inS 1 4 f true (by simpa using hf) _).mono ?_
              rintro e wx ⟨rfl, hwx⟩
              have hwy := hwx.symm
              subst hwy
              clear hwx
              go_wp2_with fail
              refine (inS 1 4 t true (by simpa using ht) _).mono ?_
              rintro e wx ⟨rfl, hwx⟩
              have hwy := hwx.symm
              subst hwy
              clear hwx
              go_wp2_with fail
              refine (inS 1 100 fr b hb' _).mono ?_
              rintro e wx ⟨rfl, hwx⟩
              have hwy := hwx.symm
              subst hwy
              clear hwx
              go_wp2
              go_ret
              exact ⟨rfl, HW0.out⟩
            · obtain rfl := port_no hb (fun h => by rcases h.2.2.2 with h | h; exact absurd h.1 (by decide); exact hm h.2.1)
              clear hb q1
              go_enter Try.func143, Try.ntmps143
              go_wp2_with fail
              refine (inS 1 4 f true (by simpa using hf) _).mono ?_
              rintro e wx ⟨rfl, hwx⟩
              have hwy := hwx.symm
              subst hwy
              clear hwx
              go_wp2_with fail
              refine (inS 1 4 t true (by simpa using ht) _).mono ?_
              rintro e wx ⟨rfl, hwx⟩
              have hwy := hwx.symm
              subst hwy
              clear hwx
              go_wp2
              go_ret
              exact ⟨rfl, HW0.out⟩
          · obtain rfl := port_no hb (fun h => by rcases h.2.2.2 with h | h; exact q1 h.1; exact q2 h.1)
            clear hb
            go_enter Try.func143, Try.ntmps143
            go_wp2_with fail
            refine (inS 1 4 f true (by simpa using hf) _).mono ?_
            rintro e wx ⟨rfl, hwx⟩
            have hwy := hwx.symm
            subst hwy
            clear hwx
            go_wp2_with fail
            refine (inS 1 4 t true (by simpa using ht) _).mono ?_
            rintro e wx ⟨rfl, hwx⟩
            have hwy := hwx.symm
            subst hwy
            clear hwx
            go_wp2
            go_ret
            exact ⟨rfl, HW0.out⟩
    · obtain rfl := port_no hb (fun h => ht h.2.1)
      clear hb
      go_enter Try.func143, Try.ntmps143
      go_wp2_with fail
      refine (inS 1 4 f true (by simpa using hf) _).mono ?_
      rintro e wx ⟨rfl, hwx⟩
      have hwy := hwx.symm
      subst hwy
      clear hwx
      go_wp2_with fail
      refine (inS 1 4 t false (by simpa using ht) _).mono ?_
      rintro e wx ⟨rfl, hwx⟩
      have hwy := hwx.symm
      subst hwy
      clear hwx
      go_wp2
      go_ret
      exact ⟨rfl, HW0.out⟩
  · obtain rfl := port_no hb (fun h => hf h.1)
    clear hb
    go_enter Try.func143, Try.ntmps143
    go_wp2_with fail
    refine (inS 1 4 f false (by simpa using hf) _).mono ?_
    rintro e wx ⟨rfl, hwx⟩
    have hwy := hwx.symm
    subst hwy
    clear hwx
    go_wp2
    go_ret
    exact ⟨rfl, HW0.out⟩
end Go.Proofs.Ytfdhcchakoldpaa.P
