/-
  How much a device holds.
-/
import Derived.Test.YtckeffccoghgeaaDoorOpenDv
import Derived.Test.YtckeffccoghgeaaDoorDvS
namespace Go.Proofs.YtckeffccoghgeaaDoor
open Go.RowKit Go.PlainAid
set_option linter.unusedVariables false
set_option linter.unusedSimpArgs false

set_option maxRecDepth 100000 in
set_option maxHeartbeats 1000000 in
theorem szMnx (m : Mn) (x : Int) (x0 : 0 ≤ x) (x1 : x ≤ 1048576) (hl : m.s.length ≤ 9223372036854775807) (w : World) : Calls Tryd.prog 10 #[mnV m, .int .i64 x] w fun e w' => ∃ y : Int, e = .returned (.int .i64 y) ∧ y ≤ 1048576 ∧ (0 ≤ y → y = x - (m.s.length : Int)) ∧ Below w.heap.size w w' := by
  obtain ⟨a, b, n, d, s⟩ := m
  obtain ⟨S, hS⟩ : ∃ S : ByteArray, (⟨s.toArray⟩ : ByteArray) = S := ⟨_, rfl⟩
  have hsz := txt_size hS
  unfold mnV
  dsimp only at *
  rw [hS, ← hsz]
  rw [← hsz] at hl
  clear hS hsz
  have q : IntKind.i64.wrap (x - (S.size : Int)) = x - (S.size : Int) := wrap_in (by omega) (by omega)
  by_cases h : (S.size : Int) ≤ x
  · have h' : ¬ (x - (S.size : Int)) < 0 := by omega
    go_enter Tryd.func10, Tryd.ntmps10
    go_wp2
    go_ret
    exact ⟨x - (S.size : Int), rfl, by omega, fun _ => rfl, alM _ _⟩
  · have h' : (x - (S.size : Int)) < 0 := by omega
    go_enter Tryd.func10, Tryd.ntmps10
    go_wp2
    go_ret
    exact ⟨-1, rfl, by omega, fun h => absurd h (by omega), alM _ _⟩
set_option maxRecDepth 100000 in
set_option maxHeartbeats 4000000 in
theorem szDv (p : Pm) (a : Option Addr) (n cap : Nat) (l : List Int) (al : Int) (m : Mn) (ta : Option Addr) (tn tc : Nat) (rf : Int) (hn : n ≤ 9223372036854775807) (hm : m.s.length ≤ 9223372036854775807) (ht : tn ≤ 9223372036854775807) (w : World) :
    Calls Tryd.prog 4 #[.agg #[.int .i64 p.s, .int .i64 p.n, .int .i64 p.d, .int .i64 p.r, .int .i64 p.l, .int .i64 p.b, .int .i64 p.g, .int .i64 p.k, .slice a n cap, .int .i64 al, .int .i64 m.a, .bool m.b, .int .i64 m.n, .int .i64 m.d, .string ⟨m.s.toArray⟩, .slice ta tn tc, .int .i64 rf], .int .i64 1048576] w fun e w' => ∃ y : Int, e = .returned (.int .i64 y) ∧ (0 ≤ y → n + m.s.length + tn ≤ 1048576) ∧ Below w.heap.size w w' := by
  have HX0 : Hid ((w.alloc (.cells #[.int .i64 p.s, .int .i64 p.n, .int .i64 p.d, .int .i64 p.r, .int .i64 p.l, .int .i64 p.b, .int .i64 p.g, .int .i64 p.k, .slice a n cap, .int .i64 al, .int .i64 m.a, .bool m.b, .int .i64 m.n, .int .i64 m.d, .string ⟨m.s.toArray⟩, .slice ta tn tc, .int .i64 rf] 33)).heap[w.heap.size]? = some (.cells #[.int .i64 p.s, .int .i64 p.n, .int .i64 p.d, .int .i64 p.r, .int .i64 p.l, .int .i64 p.b, .int .i64 p.g, .int .i64 p.k, .slice a n cap, .int .i64 al, .int .i64 m.a, .bool m.b, .int .i64 m.n, .int .i64 m.d, .string ⟨m.s.toArray⟩, .slice ta tn tc, .int .i64 rf] 33)) := heap_new w _
  have HW0 : Hid (Below w.heap.size w (w.alloc (.cells #[.int .i64 p.s, .int .i64 p.n, .int .i64 p.d, .int .i64 p.r, .int .i64 p.l, .int .i64 p.b, .int .i64 p.g, .int .i64 p.k, .slice a n cap, .int .i64 al, .int .i64 m.a, .bool m.b, .int .i64 m.n, .int .i64 m.d, .string ⟨m.s.toArray⟩, .slice ta tn tc, .int .i64 rf] 33))) := alM _ _
  have c0 := box17_cells HX0.out
  obtain ⟨x, hx⟩ : ∃ x, G.leftN 1048576 n = x := ⟨_, rfl⟩
  have HE : Hid (G.leftN 1048576 n = x) := hx
  have hx1 : x ≤ 1048576 ∧ (0 ≤ x → x = 1048576 - (n : Int)) := by
    rw [← hx]; unfold G.leftN; split <;> omega
  clear hx
  go_enter Tryd.func4, Tryd.ntmps4
  go_wp2_with fail
  refine (G.szGL a al n cap 1048576 hn (by omega) (by omega) _).mono ?_
  rintro e w1 ⟨rfl, hb1⟩
  rw [HE.out]
  have HX1 : Hid (w1.heap[w.heap.size]? = some (.cells #[.int .i64 p.s, .int .i64 p.n, .int .i64 p.d, .int .i64 p.r, .int .i64 p.l, .int .i64 p.b, .int .i64 p.g, .int .i64 p.k, .slice a n cap, .int .i64 al, .int .i64 m.a, .bool m.b, .int .i64 m.n, .int .i64 m.d, .string ⟨m.s.toArray⟩, .slice ta tn tc, .int .i64 rf] 33)) := row_on HX0.out hb1
  have HW1 : Hid (Below w.heap.size w w1) := bel_on (Nat.le_refl _) HW0.out hb1
  have c1 := box17_cells HX1.out
  clear hb1 HX0 HW0 c0 HE
  by_cases h1 : x < 0
  · clear hx1
    go_wp2
    go_ret
    exact ⟨-1, rfl, fun h => absurd h (by omega), HW1.out⟩
  have HQ2 : Hid (x = 1048576 - (n : Int)) := hx1.2 (by omega)
  have hx0 : 0 ≤ x := by omega
  have hx3 := hx1.1
  clear hx1
  go_wp2_with fail
  refine (szMnx m x hx0 hx3 hm _).mono ?_
  rintro e w2 ⟨y, rfl, hy1, hy2, hb1⟩
  have HX2 : Hid (w2.heap[w.heap.size]? = some (.cells #[.int .i64 p.s, .int .i64 p.n, .int .i64 p.d, .int .i64 p.r, .int .i64 p.l, .int .i64 p.b, .int .i64 p.g, .int .i64 p.k, .slice a n cap, .int .i64 al, .int .i64 m.a, .bool m.b, .int .i64 m.n, .int .i64 m.d, .string ⟨m.s.toArray⟩, .slice ta tn tc, .int .i64 rf] 33)) := row_on HX1.out hb1
  have HW2 : Hid (Below w.heap.size w w2) := bel_on (Nat.le_refl _) HW1.out hb1
  have c2 := box17_cells HX2.out
  clear hb1 HX1 HW1 c1
  by_cases h2 : y < 0
  · clear hy2
    go_wp2
    go_ret
    exact ⟨-1, rfl, fun h => absurd h (by omega), HW2.out⟩
  have HY3 : Hid (y = x - (m.s.length : Int)) := hy2 (by omega)
  have hy0 : 0 ≤ y := by omega
  clear hy2
  obtain ⟨z, hz⟩ : ∃ z, (if (tn : Int) ≤ y then y - (tn : Int) else -1) = z := ⟨_, rfl⟩
  have HZ : Hid ((if (tn : Int) ≤ y then y - (tn : Int) else -1) = z) := hz
  have hz1 : 0 ≤ z → (tn : Int) ≤ y := by intro h; rw [← hz] at h; split at h <;> omega
  clear hz
  go_wp2_with fail
  refine (szY ta tn tc y hy0 hy1 ht _).mono ?_
  rintro e w3 ⟨rfl, hw⟩
  obtain rfl : w2 = w3 := hw.symm
  rw [HZ.out]
  clear hw HZ
  by_cases h3 : z < 0
  · clear hz1
    go_wp2
    go_ret
    exact ⟨-1, rfl, fun h => absurd h (by omega), HW2.out⟩
  have hfin : n + m.s.length + tn ≤ 1048576 := by have e1 := hz1 (by omega); have e2 := HQ2.out; have e3 := HY3.out; omega
  have HF : Hid (n + m.s.length + tn ≤ 1048576) := hfin
  clear hz1 hfin hy1 hx3 hx0 hy0
  go_wp2
  go_ret
  exact ⟨z, rfl, fun _ => HF.out, HW2.out⟩
end Go.Proofs.YtckeffccoghgeaaDoor
