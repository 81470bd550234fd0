/-
  Sums that stay: the walk of the law over bytes that are not too many.
-/
import Derived.Test.YtcjidlbpkijmnaaInts
namespace Go.Proofs.Ytcjidlbpkijmnaa
open Go.RowKit Go.PlainAid
set_option linter.unusedVariables false

theorem addS_comm (a b : Int) : addS a b = addS b a := by
  unfold addS
  rw [Int.add_comm]
theorem addS_small {a b : Int} (ha : -600000000 ≤ a ∧ a ≤ 600000000) (hb : -600000000 ≤ b ∧ b ≤ 600000000) : addS a b = a + b := by
  unfold addS
  rw [sat_in (n := a) (by omega) (by omega), sat_in (n := b) (by omega) (by omega), sat_in (by omega) (by omega)]

theorem add8' (a b S : Int) (h : addS a b = S) (w : World) : Calls Try.prog 8 #[.int .i64 a, .int .i64 b] w fun e w' => e = .returned (.int .i64 S) ∧ Below w.heap.size w w' := by
  subst h
  exact add8 a b w
theorem spec10' (a b S : Int) (h : addS a b = S) (w : World) : Calls Try.prog 10 #[.int .i64 a, .int .i64 b] w fun e w' => e = .returned (.int .i64 S) ∧ w' = w := by
  subst h
  exact spec10 a b w

/-- the numbers that were drawn, the first four by name -/
theorem places7 (B : Nat) (a : Option Addr) (len cap : Nat) (w : World) (hcode : CodeOk w B a len) (hB : B ≤ w.heap.size) :
    Calls Try.prog 7 #[.slice a len cap] w fun e w' => ∃ (g cp : Nat) (p0 p1 p2 p3 : Int), e = .returned (.slice (some ⟨g, 0, none⟩) 12 cp) ∧ (0 ≤ p0 ∧ p0 ≤ 9999) ∧ (0 ≤ p1 ∧ p1 ≤ 9999) ∧ (0 ≤ p2 ∧ p2 ≤ 9999) ∧ (0 ≤ p3 ∧ p3 ≤ 9999) ∧ w.heap.size ≤ g ∧ w'.cell? ⟨g, 0, none⟩ = some (.int .i64 p0) ∧ w'.cell? ⟨g, 1, none⟩ = some (.int .i64 p1) ∧ w'.cell? ⟨g, 2, none⟩ = some (.int .i64 p2) ∧ w'.cell? ⟨g, 3, none⟩ = some (.int .i64 p3) ∧ g < w'.heap.size ∧ Below w.heap.size w w' := by
  refine (places17 B a len cap w hcode hB).mono ?_
  rintro e w' ⟨g, cp, l, rfl, hl, hsm, hg, hc, hb⟩
  have c0 := hc 0 (by omega)
  refine ⟨g, cp, l[0], l[1], l[2], l[3], by rw [hl], hsm _ (List.getElem_mem _), hsm _ (List.getElem_mem _), hsm _ (List.getElem_mem _), hsm _ (List.getElem_mem _), hg, c0, hc 1 (by omega), hc 2 (by omega), hc 3 (by omega), World.block_lt_of_cell? _ _ c0, hb⟩

set_option maxHeartbeats 1000000 in
theorem sums_in (a0 : Option Addr) (len0 cap0 : Nat) (hb : len0 ≤ 1048576) (w : World) (hcode : CodeOk w w.heap.size a0 len0) :
    Calls Try.prog 3 #[.slice a0 len0 cap0] w fun e w' => e = .returned (.bool true) ∧ Below w.heap.size w w' := by
  have HC : Hid (CodeOk w w.heap.size a0 len0) := hcode
  clear hcode
  go_enter Try.func3, Try.ntmps3
  go_wp2_with fail
  refine (big5 a0 len0 cap0 (by omega) _).mono ?_
  rintro e w1 ⟨rfl, rfl⟩
  rw [decide_eq_false (by omega)]
  go_wp2_with fail
  refine (places7 w1.heap.size a0 len0 cap0 _ HC.out (Nat.le_refl _)).mono ?_
  rintro e w3 ⟨g, cp, p0, p1, p2, p3, rfl, r0, r1, r2, r3, hg, c0, c1, c2, c3, hg3, hb3⟩
  have HC3 : Hid (CodeOk w3 w1.heap.size a0 len0) := code_below HC.out hb3
  have HW3 : Hid (Below w1.heap.size w1 w3) := hb3
  clear HC hb3 hg hg3 c2 c3 r2 r3
  have hS : addS ((p0 - 5000) * 100003) ((p1 - 5000) * 90001) = (p0 - 5000) * 100003 + (p1 - 5000) * 90001 := addS_small (by omega) (by omega)
  have HS : Hid (_ = _) := hS
  have HS' : Hid (_ = _) := (addS_comm ((p1 - 5000) * 90001) ((p0 - 5000) * 100003)).trans hS
  clear hS
  go_wp2_with fail
  refine (add8' _ _ _ HS.out _).mono ?_
  rintro e w4 ⟨rfl, hb4⟩
  have HW4 : Hid (Below w1.heap.size w1 w4) := HW3.out.trans (hb4.mono HW3.out.size)
  have HC4 : Hid (CodeOk w4 w1.heap.size a0 len0) := code_below HC3.out (hb4.mono HW3.out.size)
  clear HC3 HW3 hb4 c0 c1
  go_wp2_with fail
  refine (draw9 w1.heap.size a0 len0 cap0 _ HC4.out HW4.out.size).mono ?_
  rintro e w5 ⟨x, y, rfl, hx, hy, hb5⟩
  have HW5 : Hid (Below w1.heap.size w1 w5) := HW4.out.trans (hb5.mono HW4.out.size)
  clear HC4 HW4 hb5
  obtain ⟨t, ht⟩ : ∃ t, addS x y = t := ⟨_, rfl⟩
  have HT : Hid (addS x y = t) := ht
  have HT' : Hid (addS y x = t) := (addS_comm y x).trans ht
  have tr : -1000000000000 ≤ t ∧ t ≤ 1000000000000 := by rw [← ht]; exact sat_range _
  clear ht
  go_wp2_with fail
  refine (add8' _ _ t HT.out _).mono ?_
  rintro e w6 ⟨rfl, hb6⟩
  have HW6 : Hid (Below w1.heap.size w1 w6) := HW5.out.trans (hb6.mono HW5.out.size)
  clear HW5 hb6
  go_wp2_with fail
  refine (add8' _ _ _ HS'.out _).mono ?_
  rintro e w7 ⟨rfl, hb7⟩
  have HW7 : Hid (Below w1.heap.size w1 w7) := HW6.out.trans (hb7.mono HW6.out.size)
  clear HW6 hb7
  go_wp2_with fail
  refine (spec10' _ _ t HT.out _).mono ?_
  rintro e w8 ⟨rfl, rfl⟩
  go_wp2_with fail
  refine (add8' _ _ t HT'.out _).mono ?_
  rintro e w9 ⟨rfl, hb9⟩
  have HW9 : Hid (Below w1.heap.size w1 w9) := HW7.out.trans (hb9.mono HW7.out.size)
  clear HW7 hb9
  go_wp2_with fail
  refine (add8' _ _ 1000000000000 (by decide) _).mono ?_
  rintro e w10 ⟨rfl, hb10⟩
  have HW10 : Hid (Below w1.heap.size w1 w10) := HW9.out.trans (hb10.mono HW9.out.size)
  clear HW9 hb10
  go_wp2_with fail
  refine (add8' _ _ (-1000000000000) (by decide) _).mono ?_
  rintro e w11 ⟨rfl, hb11⟩
  have HW11 : Hid (Below w1.heap.size w1 w11) := HW10.out.trans (hb11.mono HW10.out.size)
  clear HW10 hb11
  go_wp2
  go_ret
  exact ⟨rfl, HW11.out⟩
end Go.Proofs.Ytcjidlbpkijmnaa
