/-
  DeviceOk of the program.
-/
import Derived.Test.YtckeffccoghgeaaDoorPmIoks
import Derived.Test.YtckeffccoghgeaaDoorMnIc
import Derived.Test.YtckeffccoghgeaaDoorGC
import Derived.Test.YtckeffccoghgeaaDoorSnsH
import Derived.Test.YtckeffccoghgeaaDoorDvS
namespace Go.Proofs.YtckeffccoghgeaaDoor
open Go.RowKit Go.PlainAid
set_option linter.unusedVariables false
set_option linter.unusedSimpArgs false

theorem isnumI (x : Int) (b : Bool) (hb : decide (0 ≤ x ∧ x ≤ 1000000000) = b) (w : World) : Calls Tryd.prog 41 #[.int .i64 x] w fun e w' => e = .returned (.bool b) ∧ Below w.heap.size w w' := by
  go_enter Tryd.func41, Tryd.ntmps41
  go_wp2_with fail
  refine (H.holdsI 0 1000000000 x b hb _).mono ?_
  rintro e w1 ⟨rfl, hb1⟩
  go_wp2
  go_ret
  exact ⟨rfl, hb1⟩
set_option maxRecDepth 100000 in
set_option maxHeartbeats 4000000 in
theorem deviceokI (p : Pm) (a : Option Addr) (n cap : Nat) (l : List Int) (al : Int) (m : Mn) (ta : Option Addr) (tn tc : Nat) (rf : Int) (P Gk Mk : Bool) (hP : P = true ↔ p.ok) (hG : Gk = true ↔ G.GdR l al) (hM : okM m = Mk) (B : Bool) (hB : devB P Gk Mk tn rf = B) (hl : l.length = n) (hn : n ≤ 9223372036854775807) (ht : tn ≤ 9223372036854775807) (w : World) (hr : G.Rd w a l) :
    Calls Tryd.prog 19 #[.agg #[.int .i64 p.s, .int .i64 p.n, .int .i64 p.d, .int .i64 p.r, .int .i64 p.l, .int .i64 p.b, .int .i64 p.g, .int .i64 p.k, .slice a n cap, .int .i64 al, .int .i64 m.a, .bool m.b, .int .i64 m.n, .int .i64 m.d, .string ⟨m.s.toArray⟩, .slice ta tn tc, .int .i64 rf]] w fun e w' => e = .returned (.bool B) ∧ Below w.heap.size w w' := by
  have HG : Hid (Gk = true ↔ G.GdR l al) := hG
  have HP : Hid (P = true ↔ p.ok) := hP
  have HM : Hid (okM m = Mk) := hM
  have HB : Hid (devB P Gk Mk tn rf = B) := hB
  have HL : Hid (l.length = n) := hl
  have HX0 : Hid ((w.alloc (.cells #[.int .i64 p.s, .int .i64 p.n, .int .i64 p.d, .int .i64 p.r, .int .i64 p.l, .int .i64 p.b, .int .i64 p.g, .int .i64 p.k, .slice a n cap, .int .i64 al, .int .i64 m.a, .bool m.b, .int .i64 m.n, .int .i64 m.d, .string ⟨m.s.toArray⟩, .slice ta tn tc, .int .i64 rf] 43)).heap[w.heap.size]? = some (.cells #[.int .i64 p.s, .int .i64 p.n, .int .i64 p.d, .int .i64 p.r, .int .i64 p.l, .int .i64 p.b, .int .i64 p.g, .int .i64 p.k, .slice a n cap, .int .i64 al, .int .i64 m.a, .bool m.b, .int .i64 m.n, .int .i64 m.d, .string ⟨m.s.toArray⟩, .slice ta tn tc, .int .i64 rf] 43)) := heap_new w _
  have HW0 : Hid (Below w.heap.size w (w.alloc (.cells #[.int .i64 p.s, .int .i64 p.n, .int .i64 p.d, .int .i64 p.r, .int .i64 p.l, .int .i64 p.b, .int .i64 p.g, .int .i64 p.k, .slice a n cap, .int .i64 al, .int .i64 m.a, .bool m.b, .int .i64 m.n, .int .i64 m.d, .string ⟨m.s.toArray⟩, .slice ta tn tc, .int .i64 rf] 43))) := alM _ _
  have HR0 : Hid (G.Rd (w.alloc (.cells #[.int .i64 p.s, .int .i64 p.n, .int .i64 p.d, .int .i64 p.r, .int .i64 p.l, .int .i64 p.b, .int .i64 p.g, .int .i64 p.k, .slice a n cap, .int .i64 al, .int .i64 m.a, .bool m.b, .int .i64 m.n, .int .i64 m.d, .string ⟨m.s.toArray⟩, .slice ta tn tc, .int .i64 rf] 43)) a l) := hr.keep HW0.out (Nat.le_refl _)
  have c0 := box17_cells HX0.out
  clear hG hP hM hB hl hr
  go_enter Tryd.func19, Tryd.ntmps19
  go_wp2_with fail
  refine (pumpokI p P HP.out _).mono ?_
  rintro e w1 ⟨rfl, hb1⟩
  have HX1 : Hid (w1.heap[w.heap.size]? = some (.cells #[.int .i64 p.s, .int .i64 p.n, .int .i64 p.d, .int .i64 p.r, .int .i64 p.l, .int .i64 p.b, .int .i64 p.g, .int .i64 p.k, .slice a n cap, .int .i64 al, .int .i64 m.a, .bool m.b, .int .i64 m.n, .int .i64 m.d, .string ⟨m.s.toArray⟩, .slice ta tn tc, .int .i64 rf] 43)) := row_on HX0.out hb1
  have HW1 : Hid (Below w.heap.size w w1) := bel_on (Nat.le_refl _) HW0.out hb1
  have HR1 : Hid (G.Rd w1 a l) := HR0.out.keep hb1 (Nat.le_refl _)
  have c1 := box17_cells HX1.out
  clear hb1 HX0 HW0 HR0 c0
  cases P
  · obtain rfl : false = B := HB.out
    go_wp2
    go_ret
    exact ⟨rfl, HW1.out⟩
  go_wp2_with fail
  refine (G.guardokI a al l n cap Gk HL.out hn HG.out _ HR1.out).mono ?_
  rintro e w2 ⟨rfl, hb1⟩
  have HX2 : Hid (w2.heap[w.heap.size]? = some (.cells #[.int .i64 p.s, .int .i64 p.n, .int .i64 p.d, .int .i64 p.r, .int .i64 p.l, .int .i64 p.b, .int .i64 p.g, .int .i64 p.k, .slice a n cap, .int .i64 al, .int .i64 m.a, .bool m.b, .int .i64 m.n, .int .i64 m.d, .string ⟨m.s.toArray⟩, .slice ta tn tc, .int .i64 rf] 43)) := row_on HX1.out hb1
  have HW2 : Hid (Below w.heap.size w w2) := bel_on (Nat.le_refl _) HW1.out hb1
  have c2 := box17_cells HX2.out
  clear hb1 HX1 HW1 HR1 c1
  cases Gk
  · obtain rfl : false = B := HB.out
    go_wp2
    go_ret
    exact ⟨rfl, HW2.out⟩
  go_wp2_with fail
  refine (menuokI m Mk HM.out _).mono ?_
  rintro e w3 ⟨rfl, hb1⟩
  have HX3 : Hid (w3.heap[w.heap.size]? = some (.cells #[.int .i64 p.s, .int .i64 p.n, .int .i64 p.d, .int .i64 p.r, .int .i64 p.l, .int .i64 p.b, .int .i64 p.g, .int .i64 p.k, .slice a n cap, .int .i64 al, .int .i64 m.a, .bool m.b, .int .i64 m.n, .int .i64 m.d, .string ⟨m.s.toArray⟩, .slice ta tn tc, .int .i64 rf] 43)) := row_on HX2.out hb1
  have HW3 : Hid (Below w.heap.size w w3) := bel_on (Nat.le_refl _) HW2.out hb1
  have c3 := box17_cells HX3.out
  clear hb1 HX2 HW2 c2
  cases Mk
  · obtain rfl : false = B := HB.out
    go_wp2
    go_ret
    exact ⟨rfl, HW3.out⟩
  by_cases h2 : (tn : Int) ≤ 200
  case neg =>
    obtain rfl : false = B := by rw [← HB.out]; unfold devB; rw [decide_eq_false h2]; rfl
    go_wp2
    go_ret
    exact ⟨rfl, HW3.out⟩
  obtain ⟨R, hR⟩ : ∃ R, decide (0 ≤ rf ∧ rf ≤ 1000000000) = R := ⟨_, rfl⟩
  have HRF : Hid (decide (0 ≤ rf ∧ rf ≤ 1000000000) = R) := hR
  obtain rfl : R = B := by rw [← HB.out]; unfold devB; rw [decide_eq_true h2, hR]; rfl
  clear hR
  go_wp2_with fail
  refine (isnumI rf R HRF.out _).mono ?_
  rintro e w4 ⟨rfl, hb1⟩
  have HW4 : Hid (Below w.heap.size w w4) := bel_on (Nat.le_refl _) HW3.out hb1
  clear hb1
  go_wp2
  go_ret
  exact ⟨rfl, HW4.out⟩
end Go.Proofs.YtckeffccoghgeaaDoor
