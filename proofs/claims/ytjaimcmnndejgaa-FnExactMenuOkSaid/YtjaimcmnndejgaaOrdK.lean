/-
  OrderOk of the program.
-/
import Derived.Test.YtjaimcmnndejgaaOrd
namespace Go.Proofs.Ytjaimcmnndejgaa
open Go.RowKit Go.PlainAid
set_option linter.unusedVariables false
set_option linter.unusedSimpArgs false

theorem holdsI (l m n : Int) (b : Bool) (hb : decide (l ≤ n ∧ n ≤ m) = b) (w : World) : Calls Try.prog 39 #[.agg #[.int .i64 l, .int .i64 m], .int .i64 n] w fun e w' => e = .returned (.bool b) ∧ Below w.heap.size w w' := by
  go_enter Try.func39, Try.ntmps39
  by_cases h1 : l ≤ n
  · by_cases h2 : n ≤ m
    · go_wp2
      go_ret
      exact ⟨by rw [← hb, decide_eq_true ⟨h1, h2⟩]; rfl, (Below.refl _ _).alloc (Nat.le_refl _) _⟩
    · go_wp2
      go_ret
      exact ⟨by rw [← hb, decide_eq_false (fun h => by omega)]; rfl, (Below.refl _ _).alloc (Nat.le_refl _) _⟩
  · go_wp2
    go_ret
    exact ⟨by rw [← hb, decide_eq_false (fun h => by omega)]; rfl, (Below.refl _ _).alloc (Nat.le_refl _) _⟩

def BasR (n d v : Int) : Prop := (1 ≤ d ∧ d ≤ 1000) ∧ (1 ≤ n ∧ n ≤ 1000) ∧ n ≤ 3 * d ∧ (1 ≤ v ∧ v ≤ 5000)
theorem bas_no {n d v : Int} {b : Bool} (hb : b = true ↔ BasR n d v) (h : ¬ BasR n d v) : b = false := by
  cases b
  · rfl
  · exact absurd (hb.1 rfl) h
set_option maxRecDepth 100000 in
set_option maxHeartbeats 2000000 in
theorem basalI (k n d v : Int) (b : Bool) (hb : b = true ↔ BasR n d v) (w : World) : Calls Try.prog 38 #[ordV k n d v] w fun e w' => e = .returned (.bool b) ∧ Below w.heap.size w w' := by
  unfold ordV
  have HB0 : Hid (Below w.heap.size w (w.alloc (.cells #[.int .i64 k, .int .i64 n, .int .i64 d, .int .i64 v] 34))) := (Below.refl _ _).alloc (Nat.le_refl _) _
  have HK0 : Hid ((w.alloc (.cells #[.int .i64 k, .int .i64 n, .int .i64 d, .int .i64 v] 34)).heap[w.heap.size]? = some (.cells #[.int .i64 k, .int .i64 n, .int .i64 d, .int .i64 v] 34)) := heap_new w _
  have k0 := box4_cells HK0.out
  by_cases hd : 1 ≤ d ∧ d ≤ 1000
  · have Dd := decide_eq_true hd
    by_cases hn : 1 ≤ n ∧ n ≤ 1000
    · have Dn := decide_eq_true hn
      have hw : IntKind.i64.wrap (d * 3) = d * 3 := by rw [IntKind.wrap_i64]; omega
      by_cases h3 : n ≤ d * 3
      · by_cases hv : 1 ≤ v ∧ v ≤ 5000
        · have Dv := decide_eq_true hv
          obtain rfl : b = true := hb.2 (by unfold BasR; omega)
          clear hb hv hd hn
          go_enter Try.func38, Try.ntmps38
          go_wp2_with fail
          refine (holdsI 1 1000 d true Dd _).mono ?_
          rintro e w1 ⟨rfl, hb1⟩
          have HB1 : Hid (Below w.heap.size w w1) := bel_on (Nat.le_refl _) HB0.out hb1
          have HK1 : Hid (w1.heap[w.heap.size]? = some (.cells #[.int .i64 k, .int .i64 n, .int .i64 d, .int .i64 v] 34)) := row_on HK0.out hb1
          have k1 := box4_cells HK1.out
          clear hb1 HB0 HK0 k0
          go_wp2_with fail
          refine (holdsI 1 1000 n true Dn _).mono ?_
          rintro e w2 ⟨rfl, hb2⟩
          have HB2 : Hid (Below w.heap.size w w2) := bel_on (Nat.le_refl _) HB1.out hb2
          have HK2 : Hid (w2.heap[w.heap.size]? = some (.cells #[.int .i64 k, .int .i64 n, .int .i64 d, .int .i64 v] 34)) := row_on HK1.out hb2
          have k2 := box4_cells HK2.out
          clear hb2 HB1 HK1 k1
          go_wp2_with fail
          refine (holdsI 1 5000 v true Dv _).mono ?_
          rintro e w3 ⟨rfl, hb3⟩
          have HB3 : Hid (Below w.heap.size w w3) := bel_on (Nat.le_refl _) HB2.out hb3
          have HK3 : Hid (w3.heap[w.heap.size]? = some (.cells #[.int .i64 k, .int .i64 n, .int .i64 d, .int .i64 v] 34)) := row_on HK2.out hb3
          have k3 := box4_cells HK3.out
          clear hb3 HB2 HK2 k2
          go_wp2
          go_ret
          exact ⟨rfl, HB3.out⟩
        · have Dv := decide_eq_false hv
          obtain rfl : b = false := bas_no hb (fun h => by unfold BasR at h; omega)
          clear hb hv hd hn
          go_enter Try.func38, Try.ntmps38
          go_wp2_with fail
          refine (holdsI 1 1000 d true Dd _).mono ?_
          rintro e w1 ⟨rfl, hb1⟩
          have HB1 : Hid (Below w.heap.size w w1) := bel_on (Nat.le_refl _) HB0.out hb1
          have HK1 : Hid (w1.heap[w.heap.size]? = some (.cells #[.int .i64 k, .int .i64 n, .int .i64 d, .int .i64 v] 34)) := row_on HK0.out hb1
          have k1 := box4_cells HK1.out
          clear hb1 HB0 HK0 k0
          go_wp2_with fail
          refine (holdsI 1 1000 n true Dn _).mono ?_
          rintro e w2 ⟨rfl, hb2⟩
          have HB2 : Hid (Below w.heap.size w w2) := bel_on (Nat.le_refl _) HB1.out hb2
          have HK2 : Hid (w2.heap[w.heap.size]? = some (.cells #[.int .i64 k, .int .i64 n, .int .i64 d, .int .i64 v] 34)) := row_on HK1.out hb2
          have k2 := box4_cells HK2.out
          clear hb2 HB1 HK1 k1
          go_wp2_with fail
          refine (holdsI 1 5000 v false Dv _).mono ?_
          rintro e w3 ⟨rfl, hb3⟩
          have HB3 : Hid (Below w.heap.size w w3) := bel_on (Nat.le_refl _) HB2.out hb3
          have HK3 : Hid (w3.heap[w.heap.size]? = some (.cells #[.int .i64 k, .int .i64 n, .int .i64 d, .int .i64 v] 34)) := row_on HK2.out hb3
          have k3 := box4_cells HK3.out
          clear hb3 HB2 HK2 k2
          go_wp2
          go_ret
          exact ⟨rfl, HB3.out⟩
      · have _t := trivial
        obtain rfl : b = false := bas_no hb (fun h => by unfold BasR at h; omega)
        clear hb hd hn
        go_enter Try.func38, Try.ntmps38
        go_wp2_with fail
        refine (holdsI 1 1000 d true Dd _).mono ?_
        rintro e w1 ⟨rfl, hb1⟩
        have HB1 : Hid (Below w.heap.size w w1) := bel_on (Nat.le_refl _) HB0.out hb1
        have HK1 : Hid (w1.heap[w.heap.size]? = some (.cells #[.int .i64 k, .int .i64 n, .int .i64 d, .int .i64 v] 34)) := row_on HK0.out hb1
        have k1 := box4_cells HK1.out
        clear hb1 HB0 HK0 k0
        go_wp2_with fail
        refine (holdsI 1 1000 n true Dn _).mono ?_
        rintro e w2 ⟨rfl, hb2⟩
        have HB2 : Hid (Below w.heap.size w w2) := bel_on (Nat.le_refl _) HB1.out hb2
        have HK2 : Hid (w2.heap[w.heap.size]? = some (.cells #[.int .i64 k, .int .i64 n, .int .i64 d, .int .i64 v] 34)) := row_on HK1.out hb2
        have k2 := box4_cells HK2.out
        clear hb2 HB1 HK1 k1
        go_wp2
        go_ret
        exact ⟨rfl, HB2.out⟩
    · have Dn := decide_eq_false hn
      obtain rfl : b = false := bas_no hb (fun h => by unfold BasR at h; omega)
      clear hb hd hn
      go_enter Try.func38, Try.ntmps38
      go_wp2_with fail
      refine (holdsI 1 1000 d true Dd _).mono ?_
      rintro e w1 ⟨rfl, hb1⟩
      have HB1 : Hid (Below w.heap.size w w1) := bel_on (Nat.le_refl _) HB0.out hb1
      have HK1 : Hid (w1.heap[w.heap.size]? = some (.cells #[.int .i64 k, .int .i64 n, .int .i64 d, .int .i64 v] 34)) := row_on HK0.out hb1
      have k1 := box4_cells HK1.out
      clear hb1 HB0 HK0 k0
      go_wp2_with fail
      refine (holdsI 1 1000 n false Dn _).mono ?_
      rintro e w2 ⟨rfl, hb2⟩
      have HB2 : Hid (Below w.heap.size w w2) := bel_on (Nat.le_refl _) HB1.out hb2
      have HK2 : Hid (w2.heap[w.heap.size]? = some (.cells #[.int .i64 k, .int .i64 n, .int .i64 d, .int .i64 v] 34)) := row_on HK1.out hb2
      have k2 := box4_cells HK2.out
      clear hb2 HB1 HK1 k1
      go_wp2
      go_ret
      exact ⟨rfl, HB2.out⟩
  · have Dd := decide_eq_false hd
    obtain rfl : b = false := bas_no hb (fun h => by unfold BasR at h; omega)
    clear hb hd
    go_enter Try.func38, Try.ntmps38
    go_wp2_with fail
    refine (holdsI 1 1000 d false Dd _).mono ?_
    rintro e w1 ⟨rfl, hb1⟩
    have HB1 : Hid (Below w.heap.size w w1) := bel_on (Nat.le_refl _) HB0.out hb1
    have HK1 : Hid (w1.heap[w.heap.size]? = some (.cells #[.int .i64 k, .int .i64 n, .int .i64 d, .int .i64 v] 34)) := row_on HK0.out hb1
    have k1 := box4_cells HK1.out
    clear hb1 HB0 HK0 k0
    go_wp2
    go_ret
    exact ⟨rfl, HB1.out⟩

set_option maxRecDepth 100000 in
set_option maxHeartbeats 2000000 in
theorem ordokI (k n d v : Int) (b : Bool) (hb : b = true ↔ OrdR k n d v) (w : World) : Calls Try.prog 17 #[ordV k n d v] w fun e w' => e = .returned (.bool b) ∧ Below w.heap.size w w' := by
  unfold ordV
  have HB0 : Hid (Below w.heap.size w (w.alloc (.cells #[.int .i64 k, .int .i64 n, .int .i64 d, .int .i64 v] 34))) := (Below.refl _ _).alloc (Nat.le_refl _) _
  have HK0 : Hid ((w.alloc (.cells #[.int .i64 k, .int .i64 n, .int .i64 d, .int .i64 v] 34)).heap[w.heap.size]? = some (.cells #[.int .i64 k, .int .i64 n, .int .i64 d, .int .i64 v] 34)) := heap_new w _
  have k0 := box4_cells HK0.out
  by_cases k1 : k = 1
  · subst k1
    have Hb : Hid (b = true ↔ BasR n d v) := by
      show b = true ↔ BasR n d v
      rw [hb]
      unfold OrdR BasR
      omega
    clear hb
    go_enter Try.func17, Try.ntmps17
    go_wp2_with fail
    refine (basalI 1 n d v b Hb.out _).mono ?_
    rintro e w1 ⟨rfl, hb1⟩
    have HB1 : Hid (Below w.heap.size w w1) := bel_on (Nat.le_refl _) HB0.out hb1
    have HK1 : Hid (w1.heap[w.heap.size]? = some (.cells #[.int .i64 1, .int .i64 n, .int .i64 d, .int .i64 v] 34)) := row_on HK0.out hb1
    have k1 := box4_cells HK1.out
    clear hb1 HB0 HK0 k0
    go_wp2
    go_ret
    exact ⟨rfl, HB1.out⟩
  by_cases k2 : k = 2
  · subst k2
    by_cases hv : 1 ≤ v ∧ v ≤ 100
    · have Dv := decide_eq_true hv
      by_cases hn : n = 0
      · by_cases hd : d = 0
        · have _t := trivial
          obtain rfl : b = true := ord_yes hb (by unfold OrdR; omega)
          clear hb hv
          subst hn
          subst hd
          go_enter Try.func17, Try.ntmps17
          go_wp2_with fail
          refine (holdsI 1 100 v true Dv _).mono ?_
          rintro e w1 ⟨rfl, hb1⟩
          have HB1 : Hid (Below w.heap.size w w1) := bel_on (Nat.le_refl _) HB0.out hb1
          have HK1 : Hid (w1.heap[w.heap.size]? = some (.cells #[.int .i64 2, .int .i64 0, .int .i64 0, .int .i64 v] 34)) := row_on HK0.out hb1
          have k1 := box4_cells HK1.out
          clear hb1 HB0 HK0 k0
          go_wp2
          go_ret
          exact ⟨rfl, HB1.out⟩
        · have _t := trivial
          obtain rfl : b = false := ord_no hb (fun h => by unfold OrdR at h; omega)
          clear hb hv
          subst hn
          go_enter Try.func17, Try.ntmps17
          go_wp2_with fail
          refine (holdsI 1 100 v true Dv _).mono ?_
          rintro e w1 ⟨rfl, hb1⟩
          have HB1 : Hid (Below w.heap.size w w1) := bel_on (Nat.le_refl _) HB0.out hb1
          have HK1 : Hid (w1.heap[w.heap.size]? = some (.cells #[.int .i64 2, .int .i64 0, .int .i64 d, .int .i64 v] 34)) := row_on HK0.out hb1
          have k1 := box4_cells HK1.out
          clear hb1 HB0 HK0 k0
          go_wp2
          go_ret
          exact ⟨rfl, HB1.out⟩
      · have _t := trivial
        obtain rfl : b = false := ord_no hb (fun h => by unfold OrdR at h; omega)
        clear hb hv
        go_enter Try.func17, Try.ntmps17
        go_wp2_with fail
        refine (holdsI 1 100 v true Dv _).mono ?_
        rintro e w1 ⟨rfl, hb1⟩
        have HB1 : Hid (Below w.heap.size w w1) := bel_on (Nat.le_refl _) HB0.out hb1
        have HK1 : Hid (w1.heap[w.heap.size]? = some (.cells #[.int .i64 2, .int .i64 n, .int .i64 d, .int .i64 v] 34)) := row_on HK0.out hb1
        have k1 := box4_cells HK1.out
        clear hb1 HB0 HK0 k0
        go_wp2
        go_ret
        exact ⟨rfl, HB1.out⟩
    · have Dv := decide_eq_false hv
      obtain rfl : b = false := ord_no hb (fun h => by unfold OrdR at h; omega)
      clear hb hv
      go_enter Try.func17, Try.ntmps17
      go_wp2_with fail
      refine (holdsI 1 100 v false Dv _).mono ?_
      rintro e w1 ⟨rfl, hb1⟩
      have HB1 : Hid (Below w.heap.size w w1) := bel_on (Nat.le_refl _) HB0.out hb1
      have HK1 : Hid (w1.heap[w.heap.size]? = some (.cells #[.int .i64 2, .int .i64 n, .int .i64 d, .int .i64 v] 34)) := row_on HK0.out hb1
      have k1 := box4_cells HK1.out
      clear hb1 HB0 HK0 k0
      go_wp2
      go_ret
      exact ⟨rfl, HB1.out⟩
  by_cases k3 : 3 ≤ k ∧ k ≤ 6
  · have q1 : (k == 1) = false := by simpa using k1
    have q2 : (k == 2) = false := by simpa using k2
    have ways : k = 3 ∨ k = 4 ∨ k = 5 ∨ k = 6 := by omega
    by_cases hn : n = 0
    · by_cases hd : d = 0
      · by_cases hv : v = 0
        · have _t := trivial
          obtain rfl : b = true := ord_yes hb (by unfold OrdR; omega)
          clear hb
          subst hn
          subst hd
          subst hv
          rcases ways with rfl | rfl | rfl | rfl <;>
          · clear q1 q2
            go_enter Try.func17, Try.ntmps17
            go_wp2
            go_ret
            exact ⟨rfl, HB0.out⟩
        · have _t := trivial
          obtain rfl : b = false := ord_no hb (fun h => by unfold OrdR at h; omega)
          clear hb
          subst hn
          subst hd
          rcases ways with rfl | rfl | rfl | rfl <;>
          · clear q1 q2
            go_enter Try.func17, Try.ntmps17
            go_wp2
            go_ret
            exact ⟨rfl, HB0.out⟩
      · have _t := trivial
        obtain rfl : b = false := ord_no hb (fun h => by unfold OrdR at h; omega)
        clear hb
        subst hn
        rcases ways with rfl | rfl | rfl | rfl <;>
        · clear q1 q2
          go_enter Try.func17, Try.ntmps17
          go_wp2
          go_ret
          exact ⟨rfl, HB0.out⟩
    · have _t := trivial
      obtain rfl : b = false := ord_no hb (fun h => by unfold OrdR at h; omega)
      clear hb
      rcases ways with rfl | rfl | rfl | rfl <;>
      · clear q1 q2
        go_enter Try.func17, Try.ntmps17
        go_wp2
        go_ret
        exact ⟨rfl, HB0.out⟩
  · obtain rfl : b = false := ord_no hb (fun h => by unfold OrdR at h; omega)
    have q1 : (k == 1) = false := by simpa using k1
    have q2 : (k == 2) = false := by simpa using k2
    have q3 : (k == 3) = false := by simp; omega
    have q4 : (k == 4) = false := by simp; omega
    have q5 : (k == 5) = false := by simp; omega
    have q6 : (k == 6) = false := by simp; omega
    clear hb k1 k2 k3
    go_enter Try.func17, Try.ntmps17
    go_wp2
    go_ret
    exact ⟨rfl, HB0.out⟩
end Go.Proofs.Ytjaimcmnndejgaa
