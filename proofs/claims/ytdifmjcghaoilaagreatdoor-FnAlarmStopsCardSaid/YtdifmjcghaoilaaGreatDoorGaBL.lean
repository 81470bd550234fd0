/-
  Plain helpers over this translation.
-/
import Derived.Test.YtdifmjcghaoilaaGreatDoorChecked
import Derived.WalkKit
import Derived.ProofKit
import Derived.Handy
import Derived.LoopTactic
import Derived.Below
import Derived.Laws.IdiomStrings
import Derived.PlainAid
import Derived.Deep.RegionWith
import Derived.Deep.RegionHeld3
import Derived.Laws.DeepStrings4
import Derived.Deep.QuietTactic
import Derived.BigQuiet
import Derived.WalkSmall
import Derived.Deep.AppendLies
import Derived.Deep.RegionLaw
import Derived.Laws.BytesArg
import Derived.Deep.LoopGhost
import Derived.WalkMore
namespace Go.Proofs.YtdifmjcghaoilaaGreatDoor
open Go.RowKit Go.PlainAid
set_option linter.unusedVariables false

theorem wrap_in {n : Int} (h0 : -9223372036854775808 ≤ n) (h1 : n ≤ 9223372036854775807) : IntKind.i64.wrap n = n := by
  rw [IntKind.wrap_i64]
  omega
theorem wrap64_in {n : Int} (h0 : -9223372036854775808 ≤ n) (h1 : n ≤ 9223372036854775807) : wrap64 n = n := by
  rw [← i64_is]
  exact wrap_in h0 h1
end Go.Proofs.YtdifmjcghaoilaaGreatDoor

namespace Go.Proofs.YtdifmjcghaoilaaGreatDoor
open Go.RowKit Go.PlainAid
set_option linter.unusedVariables false
set_option linter.unusedSimpArgs false

theorem inS (l m n : Int) (b : Bool) (hb : decide (l ≤ n ∧ n ≤ m) = b) (w : World) : Calls Tryz.prog 59 #[.int .i64 n, .int .i64 l, .int .i64 m] w fun e w' => e = .returned (.bool b) ∧ w' = w := by
  go_enter Tryz.func59, Tryz.ntmps59
  by_cases h1 : l ≤ n
  · by_cases h2 : n ≤ m
    · go_wp2
      go_ret
      exact ⟨by rw [← hb, decide_eq_true ⟨h1, h2⟩]; rfl, rfl⟩
    · go_wp2
      go_ret
      exact ⟨by rw [← hb, decide_eq_false (fun h => by omega)]; rfl, rfl⟩
  · go_wp2
    go_ret
    exact ⟨by rw [← hb, decide_eq_false (fun h => by omega)]; rfl, rfl⟩

theorem bel_on {w W W' : World} {B : Nat} (hB : B ≤ w.heap.size) (h : Below B w W) (hb : Below W.heap.size W W') : Below B w W' := h.trans (hb.mono (Nat.le_trans hB h.size))
theorem row_lt {w : World} {k : Nat} {o : Obj} (h : w.heap[k]? = some o) : k < w.heap.size := by
  rcases Nat.lt_or_ge k w.heap.size with h' | h'
  · exact h'
  · rw [Array.getElem?_eq_none h'] at h; cases h
theorem row_on {w w' : World} {k : Nat} {o : Obj} (h : w.heap[k]? = some o) (hb : Below w.heap.size w w') : w'.heap[k]? = some o := (hb.block k (row_lt h)).trans h
theorem heap_new (w : World) (o : Obj) : (w.alloc o).heap[w.heap.size]? = some o := by
  show (w.heap.push _)[w.heap.size]? = _
  simp
theorem box4_cells {w : World} {k : Nat} {t : TypeId} {x0 x1 x2 x3 : Value} (h : w.heap[k]? = some (.cells #[x0, x1, x2, x3] t)) :
    (w.cell? ⟨k, 0, none⟩ = some x0 ∧ w.cell? ⟨k, 1, none⟩ = some x1 ∧ w.cell? ⟨k, 2, none⟩ = some x2 ∧ w.cell? ⟨k, 3, none⟩ = some x3) ∧ w.frozen? ⟨k, 0, none⟩ = false ∧ w.frozen? ⟨k, 1, none⟩ = false ∧ w.frozen? ⟨k, 2, none⟩ = false ∧ w.frozen? ⟨k, 3, none⟩ = false := by
  refine ⟨⟨?_, ?_, ?_, ?_⟩, ?_, ?_, ?_, ?_⟩ <;> simp [World.cell?, World.frozen?, h]

/-- a right order -/
def OrdR (k n d v : Int) : Prop := (k = 1 ∧ (1 ≤ d ∧ d ≤ 1000) ∧ (1 ≤ n ∧ n ≤ 1000) ∧ n ≤ 3 * d ∧ (1 ≤ v ∧ v ≤ 5000)) ∨ (k = 2 ∧ (1 ≤ v ∧ v ≤ 100) ∧ n = 0 ∧ d = 0) ∨ ((3 ≤ k ∧ k ≤ 6) ∧ n = 0 ∧ d = 0 ∧ v = 0)
def ordV (k n d v : Int) : Value := .agg #[.int .i64 k, .int .i64 n, .int .i64 d, .int .i64 v]
theorem ord_bool (k n d v : Int) : ∃ b : Bool, b = true ↔ OrdR k n d v := by
  by_cases h : OrdR k n d v
  · exact ⟨true, ⟨fun _ => h, fun _ => rfl⟩⟩
  · exact ⟨false, ⟨fun e => (by cases e), fun e => absurd e h⟩⟩
theorem ord_yes {k n d v : Int} {b : Bool} (hb : b = true ↔ OrdR k n d v) (h : OrdR k n d v) : b = true := hb.2 h
theorem ord_no {k n d v : Int} {b : Bool} (hb : b = true ↔ OrdR k n d v) (h : ¬ OrdR k n d v) : b = false := by
  cases b
  · rfl
  · exact absurd (hb.1 rfl) h
theorem OrdR.bd {k n d v : Int} (h : OrdR k n d v) : (1 ≤ k ∧ k ≤ 6) ∧ (0 ≤ n ∧ n ≤ 1000) ∧ (0 ≤ d ∧ d ≤ 1000) ∧ 0 ≤ v ∧ v ≤ 5000 := by
  unfold OrdR at h
  omega
set_option maxRecDepth 100000 in
set_option maxHeartbeats 2000000 in
theorem ordokS (k n d v : Int) (b : Bool) (hb : b = true ↔ OrdR k n d v) (w : World) : Calls Tryz.prog 89 #[ordV k n d v] w fun e w' => e = .returned (.bool b) ∧ Below w.heap.size w w' := by
  unfold ordV
  have HB : Hid (Below w.heap.size w (w.alloc (.cells #[.int .i64 k, .int .i64 n, .int .i64 d, .int .i64 v] 82))) := (Below.refl _ _).alloc (Nat.le_refl _) _
  have HK : Hid ((w.alloc (.cells #[.int .i64 k, .int .i64 n, .int .i64 d, .int .i64 v] 82)).heap[w.heap.size]? = some (.cells #[.int .i64 k, .int .i64 n, .int .i64 d, .int .i64 v] 82)) := heap_new w _
  have k0 := box4_cells HK.out
  by_cases k1 : k = 1
  · subst k1
    by_cases hd : 1 ≤ d ∧ d ≤ 1000
    · have Dd := decide_eq_true hd
      by_cases hn : 1 ≤ n ∧ n ≤ 1000
      · have Dn := decide_eq_true hn
        have hw : IntKind.i64.wrap (3 * d) = 3 * d := by rw [IntKind.wrap_i64]; omega
        by_cases h3 : n ≤ 3 * d
        · by_cases hv : 1 ≤ v ∧ v ≤ 5000
          · have Dv := decide_eq_true hv
            obtain rfl : b = true := (ord_yes hb (by unfold OrdR; omega))
            clear hb hv hd hn
            go_enter Tryz.func89, Tryz.ntmps89
            go_wp2_with fail
            refine (inS 1 1000 d true Dd _).mono ?_
            rintro e w1 ⟨rfl, rfl⟩
            go_wp2_with fail
            refine (inS 1 1000 n true Dn _).mono ?_
            rintro e w1 ⟨rfl, rfl⟩
            go_wp2_with fail
            refine (inS 1 5000 v true Dv _).mono ?_
            rintro e w1 ⟨rfl, rfl⟩
            go_wp2
            go_ret
            exact ⟨rfl, HB.out⟩
          · have Dv := decide_eq_false hv
            obtain rfl : b = false := (ord_no hb (fun h => by unfold OrdR at h; omega))
            clear hb hv hd hn
            go_enter Tryz.func89, Tryz.ntmps89
            go_wp2_with fail
            refine (inS 1 1000 d true Dd _).mono ?_
            rintro e w1 ⟨rfl, rfl⟩
            go_wp2_with fail
            refine (inS 1 1000 n true Dn _).mono ?_
            rintro e w1 ⟨rfl, rfl⟩
            go_wp2_with fail
            refine (inS 1 5000 v false Dv _).mono ?_
            rintro e w1 ⟨rfl, rfl⟩
            go_wp2
            go_ret
            exact ⟨rfl, HB.out⟩
        · obtain rfl : b = false := (ord_no hb (fun h => by unfold OrdR at h; omega))
          clear hb hd hn
          go_enter Tryz.func89, Tryz.ntmps89
          go_wp2_with fail
          refine (inS 1 1000 d true Dd _).mono ?_
          rintro e w1 ⟨rfl, rfl⟩
          go_wp2_with fail
          refine (inS 1 1000 n true Dn _).mono ?_
          rintro e w1 ⟨rfl, rfl⟩
          go_wp2
          go_ret
          exact ⟨rfl, HB.out⟩
      · have Dn := decide_eq_false hn
        obtain rfl : b = false := (ord_no hb (fun h => by unfold OrdR at h; omega))
        clear hb hd hn
        go_enter Tryz.func89, Tryz.ntmps89
        go_wp2_with fail
        refine (inS 1 1000 d true Dd _).mono ?_
        rintro e w1 ⟨rfl, rfl⟩
        go_wp2_with fail
        refine (inS 1 1000 n false Dn _).mono ?_
        rintro e w1 ⟨rfl, rfl⟩
        go_wp2
        go_ret
        exact ⟨rfl, HB.out⟩
    · have Dd := decide_eq_false hd
      obtain rfl : b = false := (ord_no hb (fun h => by unfold OrdR at h; omega))
      clear hb hd
      go_enter Tryz.func89, Tryz.ntmps89
      go_wp2_with fail
      refine (inS 1 1000 d false Dd _).mono ?_
      rintro e w1 ⟨rfl, rfl⟩
      go_wp2
      go_ret
      exact ⟨rfl, HB.out⟩
  by_cases k2 : k = 2
  · subst k2
    obtain ⟨x, hx⟩ : ∃ x, decide (1 ≤ v ∧ v ≤ 100) = x := ⟨_, rfl⟩
    have HE : Hid (b = (x && (n == 0 && d == 0))) := by
      show b = _
      rw [← hx]
      by_cases h : OrdR 2 n d v
      · rw [ord_yes hb h]
        unfold OrdR at h
        rw [decide_eq_true (by omega), show n = 0 by omega, show d = 0 by omega]; rfl
      · rw [ord_no hb h]
        unfold OrdR at h
        by_cases e1 : 1 ≤ v ∧ v ≤ 100
        · by_cases e2 : n = 0
          · have e3 : (d == 0) = false := by simp; omega
            rw [e3]; simp
          · have e3 : (n == 0) = false := by simpa using e2
            rw [e3]; simp
        · rw [decide_eq_false e1]; rfl
    clear hb
    go_enter Tryz.func89, Tryz.ntmps89
    go_wp2_with fail
    refine (inS 1 100 v x hx _).mono ?_
    rintro e w1 ⟨rfl, rfl⟩
    clear hx
    cases x
    · go_wp2
      go_ret
      exact ⟨by rw [HE.out]; rfl, HB.out⟩
    · by_cases e2 : n = 0
      · subst e2
        go_wp2
        go_ret
        exact ⟨by rw [HE.out]; simp, HB.out⟩
      · have e3 : (n == 0) = false := by simpa using e2
        rw [e3] at HE
        clear e2
        go_wp2
        go_ret
        exact ⟨by rw [HE.out]; rfl, HB.out⟩
  · have q1 : (k == 1) = false := by simpa using k1
    have q2 : (k == 2) = false := by simpa using k2
    obtain ⟨x, hx⟩ : ∃ x, decide (3 ≤ k ∧ k ≤ 6) = x := ⟨_, rfl⟩
    have HE : Hid (b = (x && (n == 0 && (d == 0 && v == 0)))) := by
      show b = _
      rw [← hx]
      by_cases h : OrdR k n d v
      · rw [ord_yes hb h]
        unfold OrdR at h
        rw [decide_eq_true (by omega), show n = 0 by omega, show d = 0 by omega, show v = 0 by omega]; rfl
      · rw [ord_no hb h]
        unfold OrdR at h
        by_cases e1 : 3 ≤ k ∧ k ≤ 6
        · by_cases e2 : n = 0
          · by_cases e4 : d = 0
            · have e3 : (v == 0) = false := by simp; omega
              rw [e3]; simp
            · have e3 : (d == 0) = false := by simpa using e4
              rw [e3]; simp
          · have e3 : (n == 0) = false := by simpa using e2
            rw [e3]; simp
        · rw [decide_eq_false e1]; rfl
    clear hb k1 k2
    go_enter Tryz.func89, Tryz.ntmps89
    go_wp2_with fail
    refine (inS 3 6 k x hx _).mono ?_
    rintro e w1 ⟨rfl, rfl⟩
    clear hx
    cases x
    · go_wp2
      go_ret
      exact ⟨by rw [HE.out]; rfl, HB.out⟩
    · by_cases e2 : n = 0
      · subst e2
        by_cases e4 : d = 0
        · subst e4
          go_wp2
          go_ret
          exact ⟨by rw [HE.out]; simp, HB.out⟩
        · have e3 : (d == 0) = false := by simpa using e4
          rw [e3] at HE
          clear e4
          go_wp2
          go_ret
          exact ⟨by rw [HE.out]; simp, HB.out⟩
      · have e3 : (n == 0) = false := by simpa using e2
        rw [e3] at HE
        clear e2
        go_wp2
        go_ret
        exact ⟨by rw [HE.out]; rfl, HB.out⟩
end Go.Proofs.YtdifmjcghaoilaaGreatDoor

namespace Go.Proofs.YtdifmjcghaoilaaGreatDoor
open Go.RowKit Go.PlainAid
set_option linter.unusedVariables false
set_option linter.unusedSimpArgs false

theorem holdsI (l m n : Int) (b : Bool) (hb : decide (l ≤ n ∧ n ≤ m) = b) (w : World) : Calls Tryz.prog 95 #[.agg #[.int .i64 l, .int .i64 m], .int .i64 n] w fun e w' => e = .returned (.bool b) ∧ Below w.heap.size w w' := by
  go_enter Tryz.func95, Tryz.ntmps95
  by_cases h1 : l ≤ n
  · by_cases h2 : n ≤ m
    · go_wp2
      go_ret
      exact ⟨by rw [← hb, decide_eq_true ⟨h1, h2⟩]; rfl, (Below.refl _ _).alloc (Nat.le_refl _) _⟩
    · go_wp2
      go_ret
      exact ⟨by rw [← hb, decide_eq_false (fun h => by omega)]; rfl, (Below.refl _ _).alloc (Nat.le_refl _) _⟩
  · go_wp2
    go_ret
    exact ⟨by rw [← hb, decide_eq_false (fun h => by omega)]; rfl, (Below.refl _ _).alloc (Nat.le_refl _) _⟩

def BasR (n d v : Int) : Prop := (1 ≤ d ∧ d ≤ 1000) ∧ (1 ≤ n ∧ n ≤ 1000) ∧ n ≤ 3 * d ∧ (1 ≤ v ∧ v ≤ 5000)
theorem bas_no {n d v : Int} {b : Bool} (hb : b = true ↔ BasR n d v) (h : ¬ BasR n d v) : b = false := by
  cases b
  · rfl
  · exact absurd (hb.1 rfl) h
set_option maxRecDepth 100000 in
set_option maxHeartbeats 2000000 in
theorem basalI (k n d v : Int) (b : Bool) (hb : b = true ↔ BasR n d v) (w : World) : Calls Tryz.prog 122 #[ordV k n d v] w fun e w' => e = .returned (.bool b) ∧ Below w.heap.size w w' := by
  unfold ordV
  have HB0 : Hid (Below w.heap.size w (w.alloc (.cells #[.int .i64 k, .int .i64 n, .int .i64 d, .int .i64 v] 82))) := (Below.refl _ _).alloc (Nat.le_refl _) _
  have HK0 : Hid ((w.alloc (.cells #[.int .i64 k, .int .i64 n, .int .i64 d, .int .i64 v] 82)).heap[w.heap.size]? = some (.cells #[.int .i64 k, .int .i64 n, .int .i64 d, .int .i64 v] 82)) := heap_new w _
  have k0 := box4_cells HK0.out
  by_cases hd : 1 ≤ d ∧ d ≤ 1000
  · have Dd := decide_eq_true hd
    by_cases hn : 1 ≤ n ∧ n ≤ 1000
    · have Dn := decide_eq_true hn
      have hw : IntKind.i64.wrap (d * 3) = d * 3 := by rw [IntKind.wrap_i64]; omega
      by_cases h3 : n ≤ d * 3
      · by_cases hv : 1 ≤ v ∧ v ≤ 5000
        · have Dv := decide_eq_true hv
          obtain rfl : b = true := hb.2 (by unfold BasR; omega)
          clear hb hv hd hn
          go_enter Tryz.func122, Tryz.ntmps122
          go_wp2_with fail
          refine (holdsI 1 1000 d true Dd _).mono ?_
          rintro e w1 ⟨rfl, hb1⟩
          have HB1 : Hid (Below w.heap.size w w1) := bel_on (Nat.le_refl _) HB0.out hb1
          have HK1 : Hid (w1.heap[w.heap.size]? = some (.cells #[.int .i64 k, .int .i64 n, .int .i64 d, .int .i64 v] 82)) := row_on HK0.out hb1
          have k1 := box4_cells HK1.out
          clear hb1 HB0 HK0 k0
          go_wp2_with fail
          refine (holdsI 1 1000 n true Dn _).mono ?_
          rintro e w2 ⟨rfl, hb2⟩
          have HB2 : Hid (Below w.heap.size w w2) := bel_on (Nat.le_refl _) HB1.out hb2
          have HK2 : Hid (w2.heap[w.heap.size]? = some (.cells #[.int .i64 k, .int .i64 n, .int .i64 d, .int .i64 v] 82)) := row_on HK1.out hb2
          have k2 := box4_cells HK2.out
          clear hb2 HB1 HK1 k1
          go_wp2_with fail
          refine (holdsI 1 5000 v true Dv _).mono ?_
          rintro e w3 ⟨rfl, hb3⟩
          have HB3 : Hid (Below w.heap.size w w3) := bel_on (Nat.le_refl _) HB2.out hb3
          have HK3 : Hid (w3.heap[w.heap.size]? = some (.cells #[.int .i64 k, .int .i64 n, .int .i64 d, .int .i64 v] 82)) := row_on HK2.out hb3
          have k3 := box4_cells HK3.out
          clear hb3 HB2 HK2 k2
          go_wp2
          go_ret
          exact ⟨rfl, HB3.out⟩
        · have Dv := decide_eq_false hv
          obtain rfl : b = false := bas_no hb (fun h => by unfold BasR at h; omega)
          clear hb hv hd hn
          go_enter Tryz.func122, Tryz.ntmps122
          go_wp2_with fail
          refine (holdsI 1 1000 d true Dd _).mono ?_
          rintro e w1 ⟨rfl, hb1⟩
          have HB1 : Hid (Below w.heap.size w w1) := bel_on (Nat.le_refl _) HB0.out hb1
          have HK1 : Hid (w1.heap[w.heap.size]? = some (.cells #[.int .i64 k, .int .i64 n, .int .i64 d, .int .i64 v] 82)) := row_on HK0.out hb1
          have k1 := box4_cells HK1.out
          clear hb1 HB0 HK0 k0
          go_wp2_with fail
          refine (holdsI 1 1000 n true Dn _).mono ?_
          rintro e w2 ⟨rfl, hb2⟩
          have HB2 : Hid (Below w.heap.size w w2) := bel_on (Nat.le_refl _) HB1.out hb2
          have HK2 : Hid (w2.heap[w.heap.size]? = some (.cells #[.int .i64 k, .int .i64 n, .int .i64 d, .int .i64 v] 82)) := row_on HK1.out hb2
          have k2 := box4_cells HK2.out
          clear hb2 HB1 HK1 k1
          go_wp2_with fail
          refine (holdsI 1 5000 v false Dv _).mono ?_
          rintro e w3 ⟨rfl, hb3⟩
          have HB3 : Hid (Below w.heap.size w w3) := bel_on (Nat.le_refl _) HB2.out hb3
          have HK3 : Hid (w3.heap[w.heap.size]? = some (.cells #[.int .i64 k, .int .i64 n, .int .i64 d, .int .i64 v] 82)) := row_on HK2.out hb3
          have k3 := box4_cells HK3.out
          clear hb3 HB2 HK2 k2
          go_wp2
          go_ret
          exact ⟨rfl, HB3.out⟩
      · have _t := trivial
        obtain rfl : b = false := bas_no hb (fun h => by unfold BasR at h; omega)
        clear hb hd hn
        go_enter Tryz.func122, Tryz.ntmps122
        go_wp2_with fail
        refine (holdsI 1 1000 d true Dd _).mono ?_
        rintro e w1 ⟨rfl, hb1⟩
        have HB1 : Hid (Below w.heap.size w w1) := bel_on (Nat.le_refl _) HB0.out hb1
        have HK1 : Hid (w1.heap[w.heap.size]? = some (.cells #[.int .i64 k, .int .i64 n, .int .i64 d, .int .i64 v] 82)) := row_on HK0.out hb1
        have k1 := box4_cells HK1.out
        clear hb1 HB0 HK0 k0
        go_wp2_with fail
        refine (holdsI 1 1000 n true Dn _).mono ?_
        rintro e w2 ⟨rfl, hb2⟩
        have HB2 : Hid (Below w.heap.size w w2) := bel_on (Nat.le_refl _) HB1.out hb2
        have HK2 : Hid (w2.heap[w.heap.size]? = some (.cells #[.int .i64 k, .int .i64 n, .int .i64 d, .int .i64 v] 82)) := row_on HK1.out hb2
        have k2 := box4_cells HK2.out
        clear hb2 HB1 HK1 k1
        go_wp2
        go_ret
        exact ⟨rfl, HB2.out⟩
    · have Dn := decide_eq_false hn
      obtain rfl : b = false := bas_no hb (fun h => by unfold BasR at h; omega)
      clear hb hd hn
      go_enter Tryz.func122, Tryz.ntmps122
      go_wp2_with fail
      refine (holdsI 1 1000 d true Dd _).mono ?_
      rintro e w1 ⟨rfl, hb1⟩
      have HB1 : Hid (Below w.heap.size w w1) := bel_on (Nat.le_refl _) HB0.out hb1
      have HK1 : Hid (w1.heap[w.heap.size]? = some (.cells #[.int .i64 k, .int .i64 n, .int .i64 d, .int .i64 v] 82)) := row_on HK0.out hb1
      have k1 := box4_cells HK1.out
      clear hb1 HB0 HK0 k0
      go_wp2_with fail
      refine (holdsI 1 1000 n false Dn _).mono ?_
      rintro e w2 ⟨rfl, hb2⟩
      have HB2 : Hid (Below w.heap.size w w2) := bel_on (Nat.le_refl _) HB1.out hb2
      have HK2 : Hid (w2.heap[w.heap.size]? = some (.cells #[.int .i64 k, .int .i64 n, .int .i64 d, .int .i64 v] 82)) := row_on HK1.out hb2
      have k2 := box4_cells HK2.out
      clear hb2 HB1 HK1 k1
      go_wp2
      go_ret
      exact ⟨rfl, HB2.out⟩
  · have Dd := decide_eq_false hd
    obtain rfl : b = false := bas_no hb (fun h => by unfold BasR at h; omega)
    clear hb hd
    go_enter Tryz.func122, Tryz.ntmps122
    go_wp2_with fail
    refine (holdsI 1 1000 d false Dd _).mono ?_
    rintro e w1 ⟨rfl, hb1⟩
    have HB1 : Hid (Below w.heap.size w w1) := bel_on (Nat.le_refl _) HB0.out hb1
    have HK1 : Hid (w1.heap[w.heap.size]? = some (.cells #[.int .i64 k, .int .i64 n, .int .i64 d, .int .i64 v] 82)) := row_on HK0.out hb1
    have k1 := box4_cells HK1.out
    clear hb1 HB0 HK0 k0
    go_wp2
    go_ret
    exact ⟨rfl, HB1.out⟩

set_option maxRecDepth 100000 in
set_option maxHeartbeats 2000000 in
theorem ordokI (k n d v : Int) (b : Bool) (hb : b = true ↔ OrdR k n d v) (w : World) : Calls Tryz.prog 101 #[ordV k n d v] w fun e w' => e = .returned (.bool b) ∧ Below w.heap.size w w' := by
  unfold ordV
  have HB0 : Hid (Below w.heap.size w (w.alloc (.cells #[.int .i64 k, .int .i64 n, .int .i64 d, .int .i64 v] 82))) := (Below.refl _ _).alloc (Nat.le_refl _) _
  have HK0 : Hid ((w.alloc (.cells #[.int .i64 k, .int .i64 n, .int .i64 d, .int .i64 v] 82)).heap[w.heap.size]? = some (.cells #[.int .i64 k, .int .i64 n, .int .i64 d, .int .i64 v] 82)) := heap_new w _
  have k0 := box4_cells HK0.out
  by_cases k1 : k = 1
  · subst k1
    have Hb : Hid (b = true ↔ BasR n d v) := by
      show b = true ↔ BasR n d v
      rw [hb]
      unfold OrdR BasR
      omega
    clear hb
    go_enter Tryz.func101, Tryz.ntmps101
    go_wp2_with fail
    refine (basalI 1 n d v b Hb.out _).mono ?_
    rintro e w1 ⟨rfl, hb1⟩
    have HB1 : Hid (Below w.heap.size w w1) := bel_on (Nat.le_refl _) HB0.out hb1
    have HK1 : Hid (w1.heap[w.heap.size]? = some (.cells #[.int .i64 1, .int .i64 n, .int .i64 d, .int .i64 v] 82)) := row_on HK0.out hb1
    have k1 := box4_cells HK1.out
    clear hb1 HB0 HK0 k0
    go_wp2
    go_ret
    exact ⟨rfl, HB1.out⟩
  by_cases k2 : k = 2
  · subst k2
    by_cases hv : 1 ≤ v ∧ v ≤ 100
    · have Dv := decide_eq_true hv
      by_cases hn : n = 0
      · by_cases hd : d = 0
        · have _t := trivial
          obtain rfl : b = true := ord_yes hb (by unfold OrdR; omega)
          clear hb hv
          subst hn
          subst hd
          go_enter Tryz.func101, Tryz.ntmps101
          go_wp2_with fail
          refine (holdsI 1 100 v true Dv _).mono ?_
          rintro e w1 ⟨rfl, hb1⟩
          have HB1 : Hid (Below w.heap.size w w1) := bel_on (Nat.le_refl _) HB0.out hb1
          have HK1 : Hid (w1.heap[w.heap.size]? = some (.cells #[.int .i64 2, .int .i64 0, .int .i64 0, .int .i64 v] 82)) := row_on HK0.out hb1
          have k1 := box4_cells HK1.out
          clear hb1 HB0 HK0 k0
          go_wp2
          go_ret
          exact ⟨rfl, HB1.out⟩
        · have _t := trivial
          obtain rfl : b = false := ord_no hb (fun h => by unfold OrdR at h; omega)
          clear hb hv
          subst hn
          go_enter Tryz.func101, Tryz.ntmps101
          go_wp2_with fail
          refine (holdsI 1 100 v true Dv _).mono ?_
          rintro e w1 ⟨rfl, hb1⟩
          have HB1 : Hid (Below w.heap.size w w1) := bel_on (Nat.le_refl _) HB0.out hb1
          have HK1 : Hid (w1.heap[w.heap.size]? = some (.cells #[.int .i64 2, .int .i64 0, .int .i64 d, .int .i64 v] 82)) := row_on HK0.out hb1
          have k1 := box4_cells HK1.out
          clear hb1 HB0 HK0 k0
          go_wp2
          go_ret
          exact ⟨rfl, HB1.out⟩
      · have _t := trivial
        obtain rfl : b = false := ord_no hb (fun h => by unfold OrdR at h; omega)
        clear hb hv
        go_enter Tryz.func101, Tryz.ntmps101
        go_wp2_with fail
        refine (holdsI 1 100 v true Dv _).mono ?_
        rintro e w1 ⟨rfl, hb1⟩
        have HB1 : Hid (Below w.heap.size w w1) := bel_on (Nat.le_refl _) HB0.out hb1
        have HK1 : Hid (w1.heap[w.heap.size]? = some (.cells #[.int .i64 2, .int .i64 n, .int .i64 d, .int .i64 v] 82)) := row_on HK0.out hb1
        have k1 := box4_cells HK1.out
        clear hb1 HB0 HK0 k0
        go_wp2
        go_ret
        exact ⟨rfl, HB1.out⟩
    · have Dv := decide_eq_false hv
      obtain rfl : b = false := ord_no hb (fun h => by unfold OrdR at h; omega)
      clear hb hv
      go_enter Tryz.func101, Tryz.ntmps101
      go_wp2_with fail
      refine (holdsI 1 100 v false Dv _).mono ?_
      rintro e w1 ⟨rfl, hb1⟩
      have HB1 : Hid (Below w.heap.size w w1) := bel_on (Nat.le_refl _) HB0.out hb1
      have HK1 : Hid (w1.heap[w.heap.size]? = some (.cells #[.int .i64 2, .int .i64 n, .int .i64 d, .int .i64 v] 82)) := row_on HK0.out hb1
      have k1 := box4_cells HK1.out
      clear hb1 HB0 HK0 k0
      go_wp2
      go_ret
      exact ⟨rfl, HB1.out⟩
  by_cases k3 : 3 ≤ k ∧ k ≤ 6
  · have q1 : (k == 1) = false := by simpa using k1
    have q2 : (k == 2) = false := by simpa using k2
    have ways : k = 3 ∨ k = 4 ∨ k = 5 ∨ k = 6 := by omega
    by_cases hn : n = 0
    · by_cases hd : d = 0
      · by_cases hv : v = 0
        · have _t := trivial
          obtain rfl : b = true := ord_yes hb (by unfold OrdR; omega)
          clear hb
          subst hn
          subst hd
          subst hv
          rcases ways with rfl | rfl | rfl | rfl <;>
          · clear q1 q2
            go_enter Tryz.func101, Tryz.ntmps101
            go_wp2
            go_ret
            exact ⟨rfl, HB0.out⟩
        · have _t := trivial
          obtain rfl : b = false := ord_no hb (fun h => by unfold OrdR at h; omega)
          clear hb
          subst hn
          subst hd
          rcases ways with rfl | rfl | rfl | rfl <;>
          · clear q1 q2
            go_enter Tryz.func101, Tryz.ntmps101
            go_wp2
            go_ret
            exact ⟨rfl, HB0.out⟩
      · have _t := trivial
        obtain rfl : b = false := ord_no hb (fun h => by unfold OrdR at h; omega)
        clear hb
        subst hn
        rcases ways with rfl | rfl | rfl | rfl <;>
        · clear q1 q2
          go_enter Tryz.func101, Tryz.ntmps101
          go_wp2
          go_ret
          exact ⟨rfl, HB0.out⟩
    · have _t := trivial
      obtain rfl : b = false := ord_no hb (fun h => by unfold OrdR at h; omega)
      clear hb
      rcases ways with rfl | rfl | rfl | rfl <;>
      · clear q1 q2
        go_enter Tryz.func101, Tryz.ntmps101
        go_wp2
        go_ret
        exact ⟨rfl, HB0.out⟩
  · obtain rfl : b = false := ord_no hb (fun h => by unfold OrdR at h; omega)
    have q1 : (k == 1) = false := by simpa using k1
    have q2 : (k == 2) = false := by simpa using k2
    have q3 : (k == 3) = false := by simp; omega
    have q4 : (k == 4) = false := by simp; omega
    have q5 : (k == 5) = false := by simp; omega
    have q6 : (k == 6) = false := by simp; omega
    clear hb k1 k2 k3
    go_enter Tryz.func101, Tryz.ntmps101
    go_wp2
    go_ret
    exact ⟨rfl, HB0.out⟩
end Go.Proofs.YtdifmjcghaoilaaGreatDoor

namespace Go.Proofs.YtdifmjcghaoilaaGreatDoor
open Go.RowKit Go.PlainAid
set_option linter.unusedVariables false

/-- a rate, as a value -/
def rateV (n d r : Int) : Value := .agg #[.int .i64 n, .int .i64 d, .int .i64 r]
def rateOk (n d r : Int) : Bool := decide ((0 ≤ n ∧ n ≤ 1000000 ∧ 1 ≤ d ∧ d ≤ 1000000 ∧ 0 ≤ r ∧ r ≤ d - 1))

/-- a row of three cells that was laid, behind what only grows -/
theorem rat_on {w W' : World} {k : Nat} {t : TypeId} {x y z : Value} (h : w.heap[k]? = some (.cells #[x, y, z] t)) (hb : Below w.heap.size w W') :
    W'.heap[k]? = some (.cells #[x, y, z] t) := by
  have hlt : k < w.heap.size := by
    rcases Nat.lt_or_ge k w.heap.size with h' | h'
    · exact h'
    · rw [Array.getElem?_eq_none h'] at h; cases h
  rw [hb.block k hlt]
  exact h

theorem rat_cells {w : World} {k : Nat} {t : TypeId} {x y z : Value} (h : w.heap[k]? = some (.cells #[x, y, z] t)) :
    w.cell? ⟨k, 0, none⟩ = some x ∧ w.cell? ⟨k, 1, none⟩ = some y ∧ w.cell? ⟨k, 2, none⟩ = some z ∧ w.frozen? ⟨k, 0, none⟩ = false ∧ w.frozen? ⟨k, 1, none⟩ = false ∧ w.frozen? ⟨k, 2, none⟩ = false := by
  refine ⟨?_, ?_, ?_, ?_, ?_, ?_⟩ <;> simp [World.cell?, World.frozen?, h]

theorem rateI (n d r : Int) (w : World) : Calls Tryz.prog 130 #[rateV n d r] w fun e w' => e = .returned (.bool (rateOk n d r)) ∧ Below w.heap.size w w' := by
  unfold rateV
  have hb0 : Below w.heap.size w (w.alloc (.cells #[.int .i64 n, .int .i64 d, .int .i64 r] 25)) := (Below.refl _ _).alloc (Nat.le_refl _) _
  have hh : (w.alloc (.cells #[.int .i64 n, .int .i64 d, .int .i64 r] 25)).heap[w.heap.size]? = some (.cells #[.int .i64 n, .int .i64 d, .int .i64 r] 25) := heap_new _ _
  go_enter Tryz.func130, Tryz.ntmps130
  by_cases h1 : 0 ≤ n ∧ n ≤ 1000000
  · by_cases h2 : 1 ≤ d ∧ d ≤ 1000000
    · by_cases h3 : 0 ≤ r ∧ r ≤ d - 1
      · go_wp2_with fail
        refine (holdsI 0 1000000 n true (decide_eq_true h1) _).mono ?_
        rintro e w1 ⟨rfl, hb1⟩
        have hh1 := rat_on hh hb1
        have c11 := rat_cells hh1
        have bel1 := hb0.trans (hb1.mono hb0.size)
        go_wp2_with fail
        refine (holdsI 1 1000000 d true (decide_eq_true h2) _).mono ?_
        rintro e w2 ⟨rfl, hb2⟩
        have hh2 := rat_on hh1 hb2
        have c21 := rat_cells hh2
        have bel2 := bel1.trans (hb2.mono bel1.size)
        go_wp2_with fail
        refine (holdsI 0 (d - 1) r true (decide_eq_true h3) _).mono ?_
        rintro e w3 ⟨rfl, hb3⟩
        have hh3 := rat_on hh2 hb3
        have c31 := rat_cells hh3
        have bel3 := bel2.trans (hb3.mono bel2.size)
        go_wp2
        go_ret
        exact ⟨by rw [show rateOk n d r = true from decide_eq_true (by omega)]; rfl, bel3⟩
      · go_wp2_with fail
        refine (holdsI 0 1000000 n true (decide_eq_true h1) _).mono ?_
        rintro e w1 ⟨rfl, hb1⟩
        have hh1 := rat_on hh hb1
        have c11 := rat_cells hh1
        have bel1 := hb0.trans (hb1.mono hb0.size)
        go_wp2_with fail
        refine (holdsI 1 1000000 d true (decide_eq_true h2) _).mono ?_
        rintro e w2 ⟨rfl, hb2⟩
        have hh2 := rat_on hh1 hb2
        have c21 := rat_cells hh2
        have bel2 := bel1.trans (hb2.mono bel1.size)
        go_wp2_with fail
        refine (holdsI 0 (d - 1) r false (decide_eq_false h3) _).mono ?_
        rintro e w3 ⟨rfl, hb3⟩
        have hh3 := rat_on hh2 hb3
        have c31 := rat_cells hh3
        have bel3 := bel2.trans (hb3.mono bel2.size)
        go_wp2
        go_ret
        exact ⟨by rw [show rateOk n d r = false from decide_eq_false (by omega)]; rfl, bel3⟩
    · go_wp2_with fail
      refine (holdsI 0 1000000 n true (decide_eq_true h1) _).mono ?_
      rintro e w1 ⟨rfl, hb1⟩
      have hh1 := rat_on hh hb1
      have c11 := rat_cells hh1
      have bel1 := hb0.trans (hb1.mono hb0.size)
      go_wp2_with fail
      refine (holdsI 1 1000000 d false (decide_eq_false h2) _).mono ?_
      rintro e w2 ⟨rfl, hb2⟩
      have hh2 := rat_on hh1 hb2
      have c21 := rat_cells hh2
      have bel2 := bel1.trans (hb2.mono bel1.size)
      go_wp2
      go_ret
      exact ⟨by rw [show rateOk n d r = false from decide_eq_false (by omega)]; rfl, bel2⟩
  · go_wp2_with fail
    refine (holdsI 0 1000000 n false (decide_eq_false h1) _).mono ?_
    rintro e w1 ⟨rfl, hb1⟩
    have hh1 := rat_on hh hb1
    have c11 := rat_cells hh1
    have bel1 := hb0.trans (hb1.mono hb0.size)
    go_wp2
    go_ret
    exact ⟨by rw [show rateOk n d r = false from decide_eq_false (by omega)]; rfl, bel1⟩

def stepR (n d r : Int) : Int := if (0 ≤ n ∧ n ≤ 1000000 ∧ 1 ≤ d ∧ d ≤ 1000000 ∧ 0 ≤ r ∧ r ≤ d - 1) then (r + n) % d else r
def stepO (n d r : Int) : Int := if (0 ≤ n ∧ n ≤ 1000000 ∧ 1 ≤ d ∧ d ≤ 1000000 ∧ 0 ≤ r ∧ r ≤ d - 1) then (r + n) / d else 0

/-- what a rate and a result laid side by side are behind a call that only grows -/
theorem two_rows {w w1 : World} {a b c x y z : Value} (hb1 : Below ((w.alloc (.cells #[a, b, c] 25)).alloc (.cells #[x, y, z] 25)).heap.size ((w.alloc (.cells #[a, b, c] 25)).alloc (.cells #[x, y, z] 25)) w1) :
    w1.heap[w.heap.size]? = some (.cells #[a, b, c] 25) ∧ w1.heap[w.heap.size + 1]? = some (.cells #[x, y, z] 25) ∧ Below w.heap.size w w1 := by
  have hb0 : Below w.heap.size w ((w.alloc (.cells #[a, b, c] 25)).alloc (.cells #[x, y, z] 25)) := ((Below.refl _ _).alloc (Nat.le_refl _) _).alloc (by simp) _
  refine ⟨rat_on ?_ hb1, rat_on ?_ hb1, hb0.trans (hb1.mono hb0.size)⟩
  · rw [Below.heap_alloc _ _ _ (by simp)]
    exact heap_new _ _
  · have := heap_new (w.alloc (.cells #[a, b, c] 25)) (.cells #[x, y, z] 25)
    simpa using this

theorem stepRI (n d r : Int) (w : World) : Calls Tryz.prog 123 #[rateV n d r] w fun e w' => e = .returned (.tuple #[rateV n d (stepR n d r), .int .i64 (stepO n d r)]) ∧ Below w.heap.size w w' := by
  have hs := rateI n d r
  by_cases hR : (0 ≤ n ∧ n ≤ 1000000 ∧ 1 ≤ d ∧ d ≤ 1000000 ∧ 0 ≤ r ∧ r ≤ d - 1)
  · rw [show stepR n d r = (r + n) % d from if_pos hR, show stepO n d r = (r + n) / d from if_pos hR]
    rw [show rateOk n d r = true from decide_eq_true hR] at hs
    obtain ⟨a1, a2, a3, a4, a5, a6⟩ := hR
    have dz : ¬ d = 0 := by omega
    unfold rateV at hs ⊢
    go_enter Tryz.func123, Tryz.ntmps123
    go_wp2_with fail
    refine (hs _).mono ?_
    rintro e w1 ⟨rfl, hb1⟩
    obtain ⟨g1, g2, bel⟩ := two_rows hb1
    have k1 := rat_cells g1
    have k2 := rat_cells g2
    clear hs hb1
    go_wp2
    go_region
    go_wp2
    refine bodyPost_ret (v := .tuple #[.agg #[.int .i64 n, .int .i64 d, .int .i64 ((r + n) % d)], .int .i64 ((r + n) / d)]) (by simp [results, Tryz.results123, go_sem, k2]) rfl ⟨rfl, ?_⟩
    refine Below.drew ?_
    exact (((bel.setCell (by simp) _).setCell (by simp) _).setCell (by simp) _).setCell (by simp) _
  · rw [show stepR n d r = r from if_neg hR, show stepO n d r = 0 from if_neg hR]
    rw [show rateOk n d r = false from decide_eq_false hR] at hs
    unfold rateV at hs ⊢
    go_enter Tryz.func123, Tryz.ntmps123
    go_wp2_with fail
    refine (hs _).mono ?_
    rintro e w1 ⟨rfl, hb1⟩
    obtain ⟨g1, g2, bel⟩ := two_rows hb1
    have k1 := rat_cells g1
    have k2 := rat_cells g2
    clear hs hb1
    go_wp2
    refine bodyPost_ret (v := .tuple #[.agg #[.int .i64 n, .int .i64 d, .int .i64 r], .int .i64 0]) (by simp [results, Tryz.results123, go_sem, k2]) rfl ⟨rfl, ?_⟩
    exact ((bel.setCell (by simp) _).setCell (by simp) _).setCell (by simp) _

end Go.Proofs.YtdifmjcghaoilaaGreatDoor

namespace Go.Proofs.YtdifmjcghaoilaaGreatDoor
open Go.RowKit Go.PlainAid
set_option linter.unusedVariables false
set_option linter.unusedSimpArgs false

abbrev PB (s n d r l b g k : Int) : Obj := .cells #[.int .i64 s, .int .i64 n, .int .i64 d, .int .i64 r, .int .i64 l, .int .i64 b, .int .i64 g, .int .i64 k] 27
abbrev PV (s n d r l b g k : Int) : Value := .agg #[.int .i64 s, .int .i64 n, .int .i64 d, .int .i64 r, .int .i64 l, .int .i64 b, .int .i64 g, .int .i64 k]
theorem sA {α : Type} (l : List α) (i : Nat) (a : α) : l.toArray.setIfInBounds i a = (l.set i a).toArray := by simp
theorem sB {α : Type} (x y : α) (l : List α) : (x :: l).set 0 y = y :: l := rfl
theorem sC {α : Type} (x y : α) (l : List α) (n : Nat) : (x :: l).set (n + 1) y = x :: l.set n y := rfl
theorem sD {α : Type} (l : List α) (i : Nat) (h : i < l.toArray.size) : l.toArray[i] = l[i]'(by simpa using h) := by simp
theorem sE {α : Type} (x : α) (l : List α) (h : 0 < (x :: l).length) : (x :: l)[0] = x := rfl
theorem sF {α : Type} (x : α) (l : List α) (n : Nat) (h : n + 1 < (x :: l).length) : (x :: l)[n + 1] = l[n]'(by simpa using h) := rfl
theorem tkA {P : Program} {md : Region.Mode} {ops : Array Oper} {Q : Exit → Act → World → Prop} {S : World → Prop} {i : Nat} {oi : Oper} {v : Value} {fuel : Nat} {listed : Array Bool} {a : Act} {w : World} (hi : ops[i]? = some oi) (hy : YieldsIf P ops S oi v a)
    (h : wpAnyH P md ops Q S fuel (listed.setIfInBounds i true) (a.put oi.dst v) w) (hs : Region.noSelect ops = true := by kernel_rfl) (hf : Region.free md ops listed i = true := by kernel_rfl) (hr : (Region.ready md ops listed).contains i = true := by kernel_rfl)
    (hQ : ∀ c a w, Q (.panic c) (a.put oi.dst v) w → Q (.panic c) a w := by exact fun _ _ _ h => h) (hS : S w := by assumption) : wpAnyH P md ops Q S (fuel + 1) listed a w := wpAnyH_take hi hs hf hr hQ hy hS h
/-- a pump: state, rate (number, by, rest), left, bolus, given, back -/
structure Pm where
  s : Int
  n : Int
  d : Int
  r : Int
  l : Int
  b : Int
  g : Int
  k : Int
def Pm.V (p : Pm) : Value := PV p.s p.n p.d p.r p.l p.b p.g p.k
def Pm.C (p : Pm) (t : TypeId) : Obj := .cells #[.int .i64 p.s, .int .i64 p.n, .int .i64 p.d, .int .i64 p.r, .int .i64 p.l, .int .i64 p.b, .int .i64 p.g, .int .i64 p.k] t
def ratR (n d r : Int) : Prop := 0 ≤ n ∧ n ≤ 1000000 ∧ 1 ≤ d ∧ d ≤ 1000000 ∧ 0 ≤ r ∧ r ≤ d - 1
def Pm.ok (p : Pm) : Prop := (0 ≤ p.s ∧ p.s ≤ 3) ∧ ratR p.n p.d p.r ∧ p.n ≤ 3 * p.d ∧ (0 ≤ p.l ∧ p.l ≤ 5000) ∧ (0 < p.l ↔ (p.s = 1 ∨ (p.s = 3 ∧ p.k = 1))) ∧ (0 ≤ p.b ∧ p.b ≤ 100) ∧ (0 ≤ p.g ∧ p.g ≤ 1000000000000) ∧ (0 ≤ p.k ∧ p.k ≤ 2) ∧ (p.s = 3 ∨ p.k = 0)
def Pm.okB (p : Pm) : Bool := decide ((0 ≤ p.s ∧ p.s ≤ 3) ∧ (0 ≤ p.n ∧ p.n ≤ 1000000 ∧ 1 ≤ p.d ∧ p.d ≤ 1000000 ∧ 0 ≤ p.r ∧ p.r ≤ p.d - 1) ∧ p.n ≤ 3 * p.d ∧ (0 ≤ p.l ∧ p.l ≤ 5000) ∧ (0 < p.l ↔ (p.s = 1 ∨ (p.s = 3 ∧ p.k = 1))) ∧ (0 ≤ p.b ∧ p.b ≤ 100) ∧ (0 ≤ p.g ∧ p.g ≤ 1000000000000) ∧ (0 ≤ p.k ∧ p.k ≤ 2) ∧ (p.s = 3 ∨ p.k = 0))
theorem Pm.okB_iff (p : Pm) : p.okB = true ↔ p.ok := decide_eq_true_iff
def ordOk (k n d v : Int) : Bool := decide ((k = 1 ∧ (1 ≤ d ∧ d ≤ 1000) ∧ (1 ≤ n ∧ n ≤ 1000) ∧ n ≤ 3 * d ∧ (1 ≤ v ∧ v ≤ 5000)) ∨ (k = 2 ∧ (1 ≤ v ∧ v ≤ 100) ∧ n = 0 ∧ d = 0) ∨ ((3 ≤ k ∧ k ≤ 6) ∧ n = 0 ∧ d = 0 ∧ v = 0))
theorem ordOk_iff (k n d v : Int) : ordOk k n d v = true ↔ OrdR k n d v := decide_eq_true_iff
theorem ok_yes {p : Pm} (h : p.ok) : p.okB = true := p.okB_iff.2 h
theorem ok_no {p : Pm} (h : ¬ p.ok) : p.okB = false := by
  cases e : p.okB
  · rfl
  · exact absurd (p.okB_iff.1 e) h
theorem or_yes {k n d v : Int} (h : OrdR k n d v) : ordOk k n d v = true := (ordOk_iff k n d v).2 h
theorem or_no {k n d v : Int} (h : ¬ OrdR k n d v) : ordOk k n d v = false := by
  cases e : ordOk k n d v
  · rfl
  · exact absurd ((ordOk_iff k n d v).1 e) h
/-- what an order makes of a pump -/
def Pm.take (p : Pm) (k n d v : Int) : Pm × Bool :=
  if p.okB = true ∧ ordOk k n d v = true then
    if k = 1 then (if p.s = 0 ∨ p.s = 2 then ({ p with s := 1, n := n, d := d, r := 0, l := v }, true) else (p, false))
    else if k = 2 then (if p.s = 0 ∨ p.s = 3 ∨ 0 < p.b then (p, false) else ({ p with b := v }, true))
    else if k = 3 then (if p.s = 0 ∨ p.s = 3 then (p, false) else ({ p with s := 3, k := p.s }, true))
    else if k = 4 then (if p.s = 3 then ({ p with s := p.k, k := 0 }, true) else (p, false))
    else if k = 6 then ({ p with s := 0, l := 0, b := 0, k := 0 }, true)
    else (p, false)
  else (p, false)
/-- it gives something -/
def Pm.runs (p : Pm) : Prop := p.ok ∧ (p.s = 1 ∨ p.s = 2)
def Pm.rate (p : Pm) : Int := (p.r + p.n) / p.d
def Pm.base (p : Pm) : Int := if p.s = 1 then min p.rate p.l else p.rate
def Pm.wants (p : Pm) : Int := if p.okB = true ∧ (p.s = 1 ∨ p.s = 2) then p.base + min p.b 3 else 0
/-- what a tick makes of a pump that runs, in which n were given -/
def Pm.giveR (p : Pm) (n : Int) : Pm :=
  let m := max (min n p.wants) 0
  let c := min m (min p.b 3)
  let q : Pm := { p with r := (p.r + p.n) % p.d, b := p.b - c, l := if p.s = 1 then p.l - (m - c) else p.l, g := min (p.g + m) 1000000000000 }
  if p.s = 1 ∧ q.l = 0 then { q with s := 2, n := 1, d := 50, r := 0 } else q
def Pm.give (p : Pm) (n : Int) : Pm := if p.okB = true ∧ (p.s = 1 ∨ p.s = 2) then p.giveR n else p
def newP : Pm := ⟨0, 0, 1, 0, 0, 0, 0, 0⟩
theorem new_ok : newP.ok := by unfold Pm.ok ratR newP; simp

theorem rate_bd {p : Pm} (h : p.ok) : 0 ≤ p.rate ∧ p.rate ≤ 3 := by
  obtain ⟨_, ⟨h1, h2, h3, h4, h5, h6⟩, h7, _⟩ := h
  unfold Pm.rate
  constructor
  · exact Int.ediv_nonneg (by omega) (by omega)
  · have : (p.r + p.n) / p.d < 4 := Int.ediv_lt_of_lt_mul (by omega) (by omega)
    omega
theorem rest_bd {p : Pm} (h : p.ok) : 0 ≤ (p.r + p.n) % p.d ∧ (p.r + p.n) % p.d ≤ p.d - 1 := by
  obtain ⟨_, ⟨h1, h2, h3, h4, h5, h6⟩, h7, _⟩ := h
  have a := Int.emod_nonneg (p.r + p.n) (show p.d ≠ 0 by omega)
  have b := Int.emod_lt_of_pos (p.r + p.n) (show 0 < p.d by omega)
  omega
theorem base_bd {p : Pm} (h : p.ok) : 0 ≤ p.base ∧ p.base ≤ 3 ∧ (p.s = 1 → p.base ≤ p.l) := by
  have h1 := rate_bd h
  obtain ⟨_, _, _, hl, _⟩ := h
  unfold Pm.base
  split <;> omega
theorem wants_bd (p : Pm) : 0 ≤ p.wants ∧ p.wants ≤ 6 := by
  unfold Pm.wants
  split
  · rename_i h
    have ho := p.okB_iff.1 h.1
    have h1 := base_bd ho
    obtain ⟨_, _, _, _, _, hb, _⟩ := ho
    omega
  · omega
theorem wants_run {p : Pm} (h : p.ok) (hs : p.s = 1 ∨ p.s = 2) : p.wants = p.base + min p.b 3 := by
  unfold Pm.wants
  rw [if_pos ⟨ok_yes h, hs⟩]
theorem giveR_ok {p : Pm} (h : p.ok) (hs : p.s = 1 ∨ p.s = 2) (n : Int) : (p.giveR n).ok := by
  have hr := rate_bd h
  have ht := rest_bd h
  have hb := base_bd h
  have hw := wants_run h hs
  have h' := h
  obtain ⟨h0, ⟨r1, r2, r3, r4, r5, r6⟩, h2, h3, h4, h5, h6, h7, h8⟩ := h'
  unfold Pm.giveR
  rw [hw]
  obtain ⟨m, hm⟩ : ∃ m, max (min n (p.base + min p.b 3)) 0 = m := ⟨_, rfl⟩
  obtain ⟨c, hc⟩ : ∃ c, min m (min p.b 3) = c := ⟨_, rfl⟩
  simp only [hm, hc]
  have m0 : 0 ≤ m ∧ m ≤ p.base + min p.b 3 := by omega
  have c0 : 0 ≤ c ∧ c ≤ p.b ∧ c ≤ m ∧ m - c ≤ p.base := by omega
  rcases hs with hs | hs
  · have hbl := hb.2.2 hs
    clear hb hw
    simp only [hs, if_true, true_and]
    by_cases hz : p.l - (m - c) = 0
    · rw [if_pos hz]
      unfold Pm.ok ratR
      simp only [hs] at *
      simp
      omega
    · rw [if_neg hz]
      unfold Pm.ok ratR
      simp only [hs] at *
      simp
      omega
  · have hne : ¬ ((2 : Int) = 1) := by decide
    simp only [hs, hne, if_false, false_and]
    unfold Pm.ok ratR
    simp only [hs] at *
    simp
    omega
theorem give_ok {p : Pm} (h : p.ok) (n : Int) : (p.give n).ok := by
  unfold Pm.give
  split
  · rename_i hh; exact giveR_ok h hh.2 n
  · exact h
theorem take_ok {p : Pm} (h : p.ok) (k n d v : Int) : (p.take k n d v).1.ok := by
  unfold Pm.take
  split
  · rename_i hh
    have ho := (ordOk_iff k n d v).1 hh.2
    have h' := h
    obtain ⟨h0, ⟨r1, r2, r3, r4, r5, r6⟩, h2, h3, h4, h5, h6, h7, h8⟩ := h'
    unfold OrdR at ho
    split
    · rename_i hk
      split
      · rename_i hs
        unfold Pm.ok ratR
        simp
        omega
      · exact h
    split
    · split
      · exact h
      · unfold Pm.ok ratR
        simp
        omega
    split
    · split
      · exact h
      · unfold Pm.ok ratR
        simp
        omega
    split
    · split
      · unfold Pm.ok ratR
        simp
        omega
      · exact h
    split
    · unfold Pm.ok ratR
      simp
      omega
    · exact h
  · exact h
theorem giveR_g (p : Pm) (n : Int) : (p.giveR n).g = min (p.g + max (min n p.wants) 0) 1000000000000 := by
  unfold Pm.giveR
  dsimp only
  repeat' split
  all_goals rfl
theorem give_given {p : Pm} (h : p.ok) (n : Int) : p.g ≤ (p.give n).g ∧ (p.give n).g ≤ p.g + p.wants := by
  have hw := wants_bd p
  have h' := h
  obtain ⟨h0, _, h2, h3, h4, h5, h6, h7, h8⟩ := h'
  unfold Pm.give
  split
  · rw [giveR_g]
    omega
  · omega
theorem give_more {p : Pm} (n : Int) : p.give p.wants = p.give (p.wants + 5) := by
  have hw := wants_bd p
  unfold Pm.give
  split
  · unfold Pm.giveR
    have e : max (min (p.wants + 5) p.wants) 0 = max (min p.wants p.wants) 0 := by omega
    rw [e]
  · rfl
theorem take_no {p : Pm} {k n d v : Int} (h : (p.take k n d v).2 = false) : (p.take k n d v).1 = p := by
  revert h
  unfold Pm.take
  repeat' split
  all_goals simp
end Go.Proofs.YtdifmjcghaoilaaGreatDoor

namespace Go.Proofs.YtdifmjcghaoilaaGreatDoor
open Go.RowKit Go.PlainAid
set_option linter.unusedVariables false
set_option linter.unusedSimpArgs false

structure Mn where
  a : Int
  b : Bool
  n : Int
  d : Int
  s : List UInt8
/-- a figure -/
def figB (x : UInt8) : Bool := decide (48 ≤ (x.toNat : Int) ∧ (x.toNat : Int) ≤ 57)
def atB (m : Mn) : Bool := decide (1 ≤ m.a ∧ m.a ≤ 4)
def okM (m : Mn) : Bool := decide ((1 ≤ m.a ∧ m.a ≤ 4) ∧ (0 ≤ m.n ∧ m.n ≤ 9999) ∧ (0 ≤ m.d ∧ m.d ≤ 9999) ∧ m.s.length ≤ 4) && m.s.all figB && (decide (m.a ≠ 1) || (decide (m.s = []) && !m.b && decide (m.n = 0) && decide (m.d = 0)))
def newM : Mn := ⟨1, false, 0, 0, []⟩
def numF (s : List UInt8) : Int := s.foldl (fun a c => 10 * a + (c.toNat : Int) - 48) 0
/-- what a key leaves: the menu, the order, whether there is one -/
structure Pr where
  m : Mn
  k : Int
  n : Int
  d : Int
  v : Int
  t : Bool
def noP (m : Mn) : Pr := ⟨m, 0, 0, 0, 0, false⟩
def topM (m : Mn) (key : Int) : Pr :=
  if key = 98 then noP ⟨2, false, 0, 0, []⟩ else if key = 111 then noP ⟨4, true, 0, 0, []⟩ else if key = 112 then ⟨m, 3, 0, 0, 0, true⟩ else if key = 103 then ⟨m, 4, 0, 0, 0, true⟩
  else if key = 115 then ⟨m, 5, 0, 0, 0, true⟩ else if key = 120 then ⟨m, 6, 0, 0, 0, true⟩ else noP m
def endM (m : Mn) : Pr :=
  if m.b = true then (if 1 ≤ numF m.s ∧ numF m.s ≤ 100 then ⟨newM, 2, 0, 0, numF m.s, true⟩ else noP newM)
  else if (1 ≤ m.d ∧ m.d ≤ 1000) ∧ (1 ≤ m.n ∧ m.n ≤ 1000) ∧ m.n ≤ 3 * m.d ∧ (1 ≤ numF m.s ∧ numF m.s ≤ 5000) then ⟨newM, 1, m.n, m.d, numF m.s, true⟩ else noP newM
def pressM (m : Mn) (key : Int) : Pr :=
  if okM m = false then noP m
  else if m.a = 1 then topM m key
  else if 48 ≤ key ∧ key ≤ 57 then (if m.s.length < 4 then noP ⟨m.a, m.b, m.n, m.d, m.s ++ [UInt8.ofNat key.toNat]⟩ else noP m)
  else if key = 99 then noP newM
  else if key ≠ 10 then noP m
  else if m.a = 2 then noP ⟨3, m.b, numF m.s, m.d, []⟩
  else if m.a = 3 then noP ⟨4, m.b, m.n, numF m.s, []⟩
  else endM m
abbrev Od4 := Int × Int × Int × Int
def allM : Mn → List UInt8 → Mn × List Od4
  | m, [] => (m, [])
  | m, x :: k => ((allM (pressM m (x.toNat : Int)).m k).1, if (pressM m (x.toNat : Int)).t = true then ((pressM m (x.toNat : Int)).k, (pressM m (x.toNat : Int)).n, (pressM m (x.toNat : Int)).d, (pressM m (x.toNat : Int)).v) :: (allM (pressM m (x.toNat : Int)).m k).2 else (allM (pressM m (x.toNat : Int)).m k).2)
theorem allM_cons (m : Mn) (x : UInt8) (k : List UInt8) : allM m (x :: k) = ((allM (pressM m (x.toNat : Int)).m k).1, if (pressM m (x.toNat : Int)).t = true then ((pressM m (x.toNat : Int)).k, (pressM m (x.toNat : Int)).n, (pressM m (x.toNat : Int)).d, (pressM m (x.toNat : Int)).v) :: (allM (pressM m (x.toNat : Int)).m k).2 else (allM (pressM m (x.toNat : Int)).m k).2) := rfl
theorem allM_app : ∀ (x y : List UInt8) (m : Mn), allM m (x ++ y) = ((allM (allM m x).1 y).1, (allM m x).2 ++ (allM (allM m x).1 y).2)
  | [], y, m => by simp [allM]
  | c :: x, y, m => by
    rw [List.cons_append, allM_cons, allM_app x y, allM_cons m c x]
    by_cases h : (pressM m (c.toNat : Int)).t = true
    · simp only [h, if_true, List.cons_append]
    · simp only [if_neg h]
theorem okM_iff (m : Mn) : okM m = true ↔ ((1 ≤ m.a ∧ m.a ≤ 4) ∧ (0 ≤ m.n ∧ m.n ≤ 9999) ∧ (0 ≤ m.d ∧ m.d ≤ 9999) ∧ m.s.length ≤ 4) ∧ (∀ x ∈ m.s, figB x = true) ∧ (m.a = 1 → m.s = [] ∧ m.b = false ∧ m.n = 0 ∧ m.d = 0) := by
  unfold okM
  simp only [Bool.and_eq_true, Bool.or_eq_true, decide_eq_true_eq, List.all_eq_true, Bool.not_eq_true']
  constructor
  · rintro ⟨⟨h1, h2⟩, h3⟩
    exact ⟨h1, h2, fun e => by rcases h3 with h3 | h3; exact absurd e h3; exact ⟨h3.1.1.1, h3.1.1.2, h3.1.2, h3.2⟩⟩
  · rintro ⟨h1, h2, h3⟩
    refine ⟨⟨h1, h2⟩, ?_⟩
    by_cases e : m.a = 1
    · exact Or.inr ⟨⟨⟨(h3 e).1, (h3 e).2.1⟩, (h3 e).2.2.1⟩, (h3 e).2.2.2⟩
    · exact Or.inl e
theorem newM_ok : okM newM = true := by decide
theorem fold_bd : ∀ (s : List UInt8) (a : Int) (K : Nat), (∀ x ∈ s, figB x = true) → 0 ≤ a → a ≤ 10 ^ K - 1 → 0 ≤ s.foldl (fun a c => 10 * a + (c.toNat : Int) - 48) a ∧ s.foldl (fun a c => 10 * a + (c.toNat : Int) - 48) a ≤ 10 ^ (K + s.length) - 1
  | [], a, K, _, h0, h1 => ⟨h0, h1⟩
  | x :: s, a, K, hf, h0, h1 => by
    have hx := hf x (List.mem_cons_self ..)
    unfold figB at hx
    have hx := of_decide_eq_true hx
    have h2 : (10 : Int) ^ (K + 1) = 10 ^ K * 10 := Int.pow_succ _ _
    have := fold_bd s (10 * a + (x.toNat : Int) - 48) (K + 1) (fun y hy => hf y (List.mem_cons_of_mem _ hy)) (by omega) (by omega)
    rw [List.foldl_cons, List.length_cons, show K + (s.length + 1) = K + 1 + s.length by omega]
    exact this
theorem numF_bd {s : List UInt8} (hf : ∀ x ∈ s, figB x = true) (hl : s.length ≤ 4) : 0 ≤ numF s ∧ numF s ≤ 9999 := by
  have h := fold_bd s 0 0 hf (by omega) (by decide)
  rw [Nat.zero_add] at h
  have h2 : (10 : Int) ^ s.length ≤ 10000 := by
    have : s.length = 0 ∨ s.length = 1 ∨ s.length = 2 ∨ s.length = 3 ∨ s.length = 4 := by omega
    rcases this with e | e | e | e | e <;> rw [e] <;> decide
  unfold numF
  omega
theorem figB_key {key : Int} (h : 48 ≤ key ∧ key ≤ 57) : figB (UInt8.ofNat key.toNat) = true := by
  unfold figB
  have : (UInt8.ofNat key.toNat).toNat = key.toNat := by simp; omega
  rw [this]
  exact decide_eq_true (by omega)
theorem topM_ok {m : Mn} (h : okM m = true) (key : Int) : okM (topM m key).m = true := by
  unfold topM noP
  repeat' split
  all_goals first | exact h | decide
theorem endM_ok (m : Mn) : okM (endM m).m = true := by
  unfold endM noP
  repeat' split
  all_goals exact newM_ok
theorem pressM_ok {m : Mn} (h : okM m = true) (key : Int) : okM (pressM m key).m = true := by
  have h' := (okM_iff m).1 h
  have hn := numF_bd h'.2.1 h'.1.2.2.2
  unfold pressM
  rw [if_neg (by rw [h]; decide)]
  by_cases h1 : m.a = 1
  · rw [if_pos h1]; exact topM_ok h key
  rw [if_neg h1]
  by_cases h2 : 48 ≤ key ∧ key ≤ 57
  · rw [if_pos h2]
    by_cases h3 : m.s.length < 4
    · rw [if_pos h3]
      refine (okM_iff _).2 ⟨⟨h'.1.1, h'.1.2.1, h'.1.2.2.1, ?_⟩, fun x hx => ?_, fun e => absurd e h1⟩
      · simp only [noP, List.length_append, List.length_cons, List.length_nil]; omega
      · rcases List.mem_append.1 hx with hx | hx
        · exact h'.2.1 x hx
        · rw [List.mem_singleton.1 hx]; exact figB_key h2
    · rw [if_neg h3]; exact h
  rw [if_neg h2]
  by_cases h3 : key = 99
  · rw [if_pos h3]; exact newM_ok
  rw [if_neg h3]
  by_cases h4 : key ≠ 10
  · rw [if_pos h4]; exact h
  rw [if_neg h4]
  by_cases h5 : m.a = 2
  · rw [if_pos h5]
    exact (okM_iff _).2 ⟨⟨by simp [noP], hn, h'.1.2.2.1, by simp [noP]⟩, fun x hx => by simp [noP] at hx, fun e => by simp [noP] at e⟩
  rw [if_neg h5]
  by_cases h6 : m.a = 3
  · rw [if_pos h6]
    exact (okM_iff _).2 ⟨⟨by simp [noP], h'.1.2.1, hn, by simp [noP]⟩, fun x hx => by simp [noP] at hx, fun e => by simp [noP] at e⟩
  rw [if_neg h6]
  exact endM_ok m
def PrR (p : Pr) : Prop := (p.t = true → OrdR p.k p.n p.d p.v) ∧ (p.t = false → p.k = 0 ∧ p.n = 0 ∧ p.d = 0 ∧ p.v = 0)
theorem noP_r (m : Mn) : PrR (noP m) := ⟨fun e => (by cases e), fun _ => ⟨rfl, rfl, rfl, rfl⟩⟩
theorem topM_r (m : Mn) (key : Int) : PrR (topM m key) := by
  unfold topM
  repeat' split
  all_goals first | exact noP_r _ | exact ⟨fun _ => (by unfold OrdR; simp), fun e => (by cases e)⟩
theorem endM_r (m : Mn) : PrR (endM m) := by
  unfold endM
  by_cases hb : m.b = true
  · rw [if_pos hb]
    by_cases h : 1 ≤ numF m.s ∧ numF m.s ≤ 100
    · rw [if_pos h]; exact ⟨fun _ => (by unfold OrdR; simp; exact h), fun e => (by cases e)⟩
    · rw [if_neg h]; exact noP_r _
  · rw [if_neg hb]
    by_cases h : (1 ≤ m.d ∧ m.d ≤ 1000) ∧ (1 ≤ m.n ∧ m.n ≤ 1000) ∧ m.n ≤ 3 * m.d ∧ (1 ≤ numF m.s ∧ numF m.s ≤ 5000)
    · rw [if_pos h]; exact ⟨fun _ => (by unfold OrdR; simp; omega), fun e => (by cases e)⟩
    · rw [if_neg h]; exact noP_r _
theorem pressM_r (m : Mn) (key : Int) : PrR (pressM m key) := by
  unfold pressM
  repeat' split
  all_goals first | exact noP_r _ | exact topM_r _ _ | exact endM_r _
theorem allM_ok : ∀ (k : List UInt8) (m : Mn), okM m = true → okM (allM m k).1 = true
  | [], m, h => h
  | x :: k, m, h => allM_ok k _ (pressM_ok h _)
theorem allM_r : ∀ (k : List UInt8) (m : Mn), ∀ o ∈ (allM m k).2, OrdR o.1 o.2.1 o.2.2.1 o.2.2.2
  | [], m, o, h => by cases h
  | x :: k, m, o, h => by
    unfold allM at h
    by_cases ht : (pressM m (x.toNat : Int)).t = true
    · simp only [ht, if_true] at h
      rcases List.mem_cons.1 h with rfl | h
      · exact (pressM_r m _).1 ht
      · exact allM_r k _ o h
    · simp only [if_neg ht] at h
      exact allM_r k _ o h
theorem allM_len : ∀ (k : List UInt8) (m : Mn), (allM m k).2.length ≤ k.length
  | [], m => Nat.le_refl _
  | x :: k, m => by
    have := allM_len k (pressM m (x.toNat : Int)).m
    unfold allM
    by_cases ht : (pressM m (x.toNat : Int)).t = true
    · simp only [ht, if_true, List.length_cons]; omega
    · simp only [if_neg ht, List.length_cons]; omega
/-- one key more -/
theorem allM_take {k : List UInt8} {j : Nat} (h : j < k.length) (m : Mn) : allM m (k.take (j + 1)) = ((pressM (allM m (k.take j)).1 (k[j].toNat : Int)).m, if (pressM (allM m (k.take j)).1 (k[j].toNat : Int)).t = true then (allM m (k.take j)).2 ++ [((pressM (allM m (k.take j)).1 (k[j].toNat : Int)).k, (pressM (allM m (k.take j)).1 (k[j].toNat : Int)).n, (pressM (allM m (k.take j)).1 (k[j].toNat : Int)).d, (pressM (allM m (k.take j)).1 (k[j].toNat : Int)).v)] else (allM m (k.take j)).2) := by
  rw [← List.take_append_getElem h, allM_app]
  simp only [allM]
  by_cases ht : (pressM (allM m (k.take j)).1 (k[j].toNat : Int)).t = true
  · simp only [ht, if_true]
  · simp only [if_neg ht, List.append_nil]
/-- a menu that is not right stays -/
theorem allM_no : ∀ (k : List UInt8) (m : Mn), okM m = false → allM m k = (m, [])
  | [], m, h => rfl
  | x :: k, m, h => by
    have hp : pressM m (x.toNat : Int) = noP m := by unfold pressM; rw [if_pos h]
    unfold allM
    rw [hp]
    simp only [noP, allM_no k m h, Bool.false_eq_true, if_false]
end Go.Proofs.YtdifmjcghaoilaaGreatDoor

namespace Go.Proofs.YtdifmjcghaoilaaGreatDoor
open Go.RowKit Go.PlainAid
set_option linter.unusedVariables false
set_option linter.unusedSimpArgs false

/-- no keys lead to a bolus with numbers -/
def goodM (m : Mn) : Bool := !m.b || (decide (m.n = 0) && decide (m.d = 0))
theorem good_b {m : Mn} (h : goodM m = true) (hb : m.b = true) : m.n = 0 ∧ m.d = 0 := by
  unfold goodM at h
  rw [hb] at h
  simpa using h
theorem top_new {m : Mn} (h : okM m = true) (h1 : m.a = 1) : m = newM := by
  obtain ⟨a, b, n, d, s⟩ := m
  obtain ⟨h2, h3, h4, h5⟩ := ((okM_iff _).1 h).2.2 h1
  dsimp only at h1 h2 h3 h4 h5
  subst h1 h2 h3 h4 h5
  rfl
theorem topM_good {m : Mn} (h : goodM m = true) (key : Int) : goodM (topM m key).m = true := by
  unfold topM noP
  repeat' split
  all_goals first | exact h | rfl
theorem endM_good (m : Mn) : goodM (endM m).m = true := by
  unfold endM noP
  repeat' split
  all_goals rfl
def SafM (m : Mn) : Prop := goodM m = true ∧ (m.a = 2 ∨ m.a = 3 → m.b = false)
theorem pressM_good {m : Mn} (hk : okM m = true) (h : SafM m) (key : Int) : SafM (pressM m key).m := by
  have h2 := h.2
  unfold pressM
  rw [if_neg (by rw [hk]; decide)]
  by_cases h1 : m.a = 1
  · rw [if_pos h1, top_new hk h1]
    unfold topM noP
    repeat' split
    all_goals exact And.intro rfl (by decide)
  rw [if_neg h1]
  by_cases h3 : 48 ≤ key ∧ key ≤ 57
  · rw [if_pos h3]
    split
    · exact And.intro h.1 h2
    · exact h
  rw [if_neg h3]
  split
  · exact And.intro rfl (by decide)
  split
  · exact h
  by_cases h4 : m.a = 2
  · rw [if_pos h4]
    have hb := h2 (Or.inl h4)
    refine And.intro ?_ (fun _ => hb)
    unfold goodM noP
    dsimp only
    rw [hb]
    rfl
  rw [if_neg h4]
  by_cases h5 : m.a = 3
  · rw [if_pos h5]
    have hb := h2 (Or.inr h5)
    refine And.intro ?_ (fun _ => hb)
    unfold goodM noP
    dsimp only
    rw [hb]
    rfl
  rw [if_neg h5]
  refine And.intro (endM_good m) ?_
  have : (endM m).m = newM := by
    unfold endM noP
    repeat' split
    all_goals rfl
  rw [this]
  decide
/-- what keys lead to: right, and no bolus with numbers -/
def GdM (m : Mn) : Prop := okM m = true ∧ SafM m
theorem GdM.new : GdM newM := ⟨newM_ok, And.intro rfl (by decide)⟩
theorem GdM.press {m : Mn} (h : GdM m) (key : Int) : GdM (pressM m key).m := ⟨pressM_ok h.1 key, pressM_good h.1 h.2 key⟩
theorem GdM.all : ∀ (k : List UInt8) {m : Mn}, GdM m → GdM (allM m k).1
  | [], _, h => h
  | x :: k, _, h => GdM.all k (h.press _)
theorem GdM.from {k : List UInt8} {m M : Mn} {l : List Od4} (h : allM m k = (M, l)) (hg : GdM m) : GdM M := by
  have := GdM.all k hg
  rw [h] at this
  exact this
end Go.Proofs.YtdifmjcghaoilaaGreatDoor

namespace Go.Proofs.YtdifmjcghaoilaaGreatDoor.Plain

/-- the bytes of a number -/
def vt (n : Nat) : List UInt8 := if 127 < n then UInt8.ofNat (n % 128 + 128) :: vt (n / 128) else [UInt8.ofNat n]

theorem vt_big {n : Nat} (h : 127 < n) : vt n = UInt8.ofNat (n % 128 + 128) :: vt (n / 128) := by
  rw [vt, if_pos h]
theorem vt_small {n : Nat} (h : ¬ 127 < n) : vt n = [UInt8.ofNat n] := by
  rw [vt, if_neg h]

theorem vt_pos (n : Nat) : 0 < (vt n).length := by
  rw [vt]; split <;> simp

theorem vt_len : ∀ (f n : Nat), n ≤ f → (vt n).length ≤ n + 1
  | 0, n, h => by rw [vt_small (by omega)]; simp
  | f + 1, n, h => by
    by_cases hb : 127 < n
    · rw [vt_big hb]
      have := vt_len f (n / 128) (by omega)
      simp only [List.length_cons]; omega
    · rw [vt_small hb]; simp

theorem toNat_big (m : Nat) : (UInt8.ofNat (m % 128 + 128)).toNat = m % 128 + 128 := by
  rw [UInt8.toNat_ofNat']; omega
theorem toNat_small {m : Nat} (h : ¬ 127 < m) : (UInt8.ofNat m).toNat = m := by
  rw [UInt8.toNat_ofNat']; omega

end Go.Proofs.YtdifmjcghaoilaaGreatDoor.Plain

namespace Go.Proofs.YtdifmjcghaoilaaGreatDoor.V
open Go.RowKit Plain
set_option linter.unusedVariables false

def bytesV (l : List UInt8) : List Value := l.map (fun b => Value.int .u8 (b.toNat : Int))

theorem info5 : (Tryz.prog.info? 5).map (fun i => (i.zero, i.size, i.bytes)) = some (some (.int .u8 0), 1, 1) := by kernel_rfl

theorem own_empty (w : World) : (w.alloc (.cells #[] 5)).ownsRow w.heap.size 5 1 (.slice (some ⟨w.heap.size, 0, none⟩) 0 0) 0 (bytesV []) :=
  ⟨rfl, Or.inr ⟨_, 0, #[], rfl, Nat.le_refl _, by show (w.heap.push _)[w.heap.size]? = _; simp, Nat.le_refl _, by decide, rfl, rfl⟩⟩

theorem one_cell (wr : World) (x : Value) (a : Addr) (ha : a = ⟨wr.heap.size, 0, none⟩) : ∀ j u, [x][j]? = some u → (wr.alloc (.cells #[x] 5)).cell? (a.add j) = some u := by
  intro j u hj
  subst ha
  match j, hj with
  | 0, hj => simp at hj; subst hj; simp [Addr.add]

theorem step_big {m n : Nat} {xs : List UInt8} (h : 127 < m) (H : xs ++ vt m = vt n) : (xs ++ [UInt8.ofNat (m % 128 + 128)]) ++ vt (m / 128) = vt n := by
  rw [← H, vt_big h]; simp
theorem bytes_big (xs : List UInt8) (m : Nat) : bytesV xs ++ [.int .u8 ((m : Int) % 128 + 128)] = bytesV (xs ++ [UInt8.ofNat (m % 128 + 128)]) := by
  simp only [bytesV, List.map_append, List.map_cons, List.map_nil, toNat_big]
  congr 2
theorem bytes_small (xs : List UInt8) {m : Nat} (h : ¬ 127 < m) : bytesV xs ++ [.int .u8 (m : Int)] = bytesV (xs ++ [UInt8.ofNat m]) := by
  simp only [bytesV, List.map_append, List.map_cons, List.map_nil, toNat_small h]

/-- a slice of bytes that is owned, turned into a string -/
theorem own_string {wr : World} {B : Nat} {v : Value} {xs : List UInt8} (h : wr.ownsRow B 5 1 v xs.length (bytesV xs)) (h0 : 0 < xs.length) :
    ∃ g cap, v = .slice (some ⟨g, 0, none⟩) xs.length cap ∧ (convert 22 9 v).run Tryz.prog wr = .ok (.string ⟨xs.toArray⟩) wr := by
  have h' := h
  rcases h.2 with ⟨rfl, e⟩ | ⟨g, cap, cur, rfl, hg, hh, hnc, hcp, hcs, htake⟩
  · omega
  · refine ⟨g, cap, rfl, run_convert_bytes_back (P := Tryz.prog) wr 22 9 5 ⟨g, 0, none⟩ cap xs Tryz.underlying22 Tryz.underlying5 Tryz.underlying9 fun j hj => ?_⟩
    rw [Addr.add_lit, Nat.zero_add, h'.cellAt j (by omega)]
    simp [bytesV, hj]

theorem own_ge {wr : World} {B n : Nat} {v : Value} {xs : List Value} (h : wr.ownsRow B 5 1 v n xs) : ∀ k, v.ownBlock = some k → B ≤ k := by
  intro k hk
  rcases h.2 with ⟨rfl, e⟩ | ⟨g, cap, cur, rfl, hg, _⟩
  · simp [Value.ownBlock] at hk
  · simp [Value.ownBlock] at hk; omega

/-- what an append of one byte leaves -/
theorem rel_step {w wr w1 : World} {v v' x : Value} {xs : List UInt8} (b : UInt8) (hx : x = .int .u8 (b.toNat : Int)) (hnx : Below w.heap.size w wr) (hown : wr.ownsRow w.heap.size 5 1 v xs.length (bytesV xs))
    (hown' : w1.ownsRow w.heap.size 5 1 v' (xs.length + 1) (bytesV xs ++ [x])) (hgrow : (wr.alloc (.cells #[x] 5)).grownBy w1 v.ownBlock) :
    w1.ownsRow w.heap.size 5 1 v' (xs ++ [b]).length (bytesV (xs ++ [b])) ∧ Below w.heap.size w w1 := by
  refine ⟨?_, (hnx.alloc hnx.size _).grown hgrow (by have := hnx.size; simp; omega) (own_ge hown)⟩
  subst hx
  simpa [bytesV] using hown'

set_option maxRecDepth 100000 in
set_option maxHeartbeats 400000 in
theorem var22 (n : Nat) (hn : n ≤ 1000000000) (w : World) :
    Calls Tryz.prog 94 #[.int .i64 n] w fun e w' => e = .returned (.string ⟨(vt n).toArray⟩) ∧ Below w.heap.size w w' := by
  obtain ⟨i0, hi, hz0, hz1, hz2⟩ := info_parts info5
  have how := own_empty w
  go_enter Tryz.func94, Tryz.ntmps94
  go_wp2
  go_loopw [0, 3] (fun nv v wr => ∃ (m : Nat) (xs : List UInt8), nv = .int .i64 m ∧ m ≤ 1000000000 ∧ xs.length + m ≤ 1000000000 ∧ Hid (xs ++ vt m = vt n) ∧ wr.ownsRow w.heap.size 5 1 v xs.length (bytesV xs) ∧ Below w.heap.size w wr) (fun nv _ _ => (intOf nv).toNat)
  case atStart => exact ⟨n, [], rfl, hn, by simp; omega, (show Hid _ from by simp [Hid]), how, (Below.refl _ _).alloc (Nat.le_refl _) _⟩
  case round =>
    obtain ⟨m, xs, rfl, hm, hx, HV, hown, hnx⟩ := hrel
    have hsz := hnx.size
    by_cases hlt : 127 < m
    · go_wp2_with (at_builtin; refine wpList_append_own _ rfl _ _ 22 rfl w.heap.size 5 i0 (.int .u8 0) 1 1 Tryz.underlying22 hi hz0 hz1 hz2 rfl (by decide) _ _ _ rfl (hown.alloc _) ⟨wr.heap.size, 0, none⟩ 1 1 [.int .u8 ((m : Int) % 128 + 128)] rfl rfl ?c1 ?c2 ?c3 ?c4 ?c5 ?_)
      case c1 => exact one_cell wr _ _ rfl
      case c2 => intro u hu; simp at hu; subst hu; rfl
      case c3 => unfold maxLen; omega
      case c4 => omega
      case c5 => simp; omega
      intro v' w1 hown' hgrow _
      have R := rel_step (UInt8.ofNat (m % 128 + 128)) (by rw [toNat_big]; congr 1) hnx hown hown' hgrow
      clear hown' hgrow hown how
      go_wp2
      go_roundw
      case rel => exact ⟨m / 128, xs ++ [UInt8.ofNat (m % 128 + 128)], by go_num, by omega, by simp; omega, step_big hlt HV.out, R.1, R.2⟩
      case measure => simp [intOf]; omega
    · go_wp2_with (at_builtin; refine wpList_append_own _ rfl _ _ 22 rfl w.heap.size 5 i0 (.int .u8 0) 1 1 Tryz.underlying22 hi hz0 hz1 hz2 rfl (by decide) _ _ _ rfl (hown.alloc _) ⟨wr.heap.size, 0, none⟩ 1 1 [.int .u8 (m : Int)] rfl rfl ?c1 ?c2 ?c3 ?c4 ?c5 ?_)
      case c1 => exact one_cell wr _ _ rfl
      case c2 => intro u hu; simp at hu; subst hu; rfl
      case c3 => unfold maxLen; omega
      case c4 => omega
      case c5 => simp; omega
      intro v' w1 hown' hgrow _
      have R := rel_step (UInt8.ofNat m) (by rw [toNat_small hlt]) hnx hown hown' hgrow
      rw [show xs ++ [UInt8.ofNat m] = vt n by rw [← vt_small hlt]; exact HV.out] at R
      obtain ⟨g, cap, hv', hcv⟩ := own_string R.1 (vt_pos n)
      have hb := R.2
      clear hown' hgrow hown how R HV
      subst hv'
      go_wp2
      go_ret
      exact ⟨rfl, hb⟩

set_option maxRecDepth 100000 in
set_option maxHeartbeats 400000 in
theorem var10 (n : Nat) (hn : n ≤ 1000000000) (w : World) :
    Calls Tryz.prog 132 #[.int .i64 n] w fun e w' => e = .returned (.tuple #[.string ⟨(vt n).toArray⟩, .bool true]) ∧ Below w.heap.size w w' := by
  obtain ⟨i0, hi, hz0, hz1, hz2⟩ := info_parts info5
  go_enter Tryz.func132, Tryz.ntmps132
  go_wp2
  go_loopw [0, 4] (fun nv v wr => ∃ (m : Nat) (xs : List UInt8), nv = .int .i64 m ∧ m ≤ 1000000000 ∧ xs.length + m ≤ 1000000000 ∧ Hid (xs ++ vt m = vt n) ∧ wr.ownsRow w.heap.size 5 1 v xs.length (bytesV xs) ∧ Below w.heap.size w wr) (fun nv _ _ => (intOf nv).toNat)
  case atStart => exact ⟨n, [], rfl, hn, by simp; omega, (show Hid _ from by simp [Hid]), World.ownsRow_nil _ _ _ _, Below.refl _ _⟩
  case round =>
    obtain ⟨m, xs, rfl, hm, hx, HV, hown, hnx⟩ := hrel
    have hsz := hnx.size
    by_cases hlt : 127 < m
    · go_wp2_with (at_builtin; refine wpList_append_own _ rfl _ _ 22 rfl w.heap.size 5 i0 (.int .u8 0) 1 1 Tryz.underlying22 hi hz0 hz1 hz2 rfl (by decide) _ _ _ rfl (hown.alloc _) ⟨wr.heap.size, 0, none⟩ 1 1 [.int .u8 ((m : Int) % 128 + 128)] rfl rfl ?c1 ?c2 ?c3 ?c4 ?c5 ?_)
      case c1 => exact one_cell wr _ _ rfl
      case c2 => intro u hu; simp at hu; subst hu; rfl
      case c3 => unfold maxLen; omega
      case c4 => omega
      case c5 => simp; omega
      intro v' w1 hown' hgrow _
      have R := rel_step (UInt8.ofNat (m % 128 + 128)) (by rw [toNat_big]; congr 1) hnx hown hown' hgrow
      clear hown' hgrow hown
      go_wp2
      go_roundw
      case rel => exact ⟨m / 128, xs ++ [UInt8.ofNat (m % 128 + 128)], by go_num, by omega, by simp; omega, step_big hlt HV.out, R.1, R.2⟩
      case measure => simp [intOf]; omega
    · go_wp2_with (at_builtin; refine wpList_append_own _ rfl _ _ 22 rfl w.heap.size 5 i0 (.int .u8 0) 1 1 Tryz.underlying22 hi hz0 hz1 hz2 rfl (by decide) _ _ _ rfl (hown.alloc _) ⟨wr.heap.size, 0, none⟩ 1 1 [.int .u8 (m : Int)] rfl rfl ?c1 ?c2 ?c3 ?c4 ?c5 ?_)
      case c1 => exact one_cell wr _ _ rfl
      case c2 => intro u hu; simp at hu; subst hu; rfl
      case c3 => unfold maxLen; omega
      case c4 => omega
      case c5 => simp; omega
      intro v' w1 hown' hgrow _
      have R := rel_step (UInt8.ofNat m) (by rw [toNat_small hlt]) hnx hown hown' hgrow
      rw [show xs ++ [UInt8.ofNat m] = vt n by rw [← vt_small hlt]; exact HV.out] at R
      obtain ⟨g, cap, hv', hcv⟩ := own_string R.1 (vt_pos n)
      have hb := R.2
      clear hown' hgrow hown R HV
      subst hv'
      go_wp2
      go_ret2
      exact ⟨rfl, hb⟩

theorem no10 (n : Int) (h : n < 0 ∨ 1000000000 < n) (h1 : -9223372036854775808 ≤ n) (h2 : n ≤ 9223372036854775807) (w : World) :
    Calls Tryz.prog 132 #[.int .i64 n] w fun e w' => e = .returned (.tuple #[.string ⟨#[]⟩, .bool false]) ∧ Below w.heap.size w w' := by
  rcases h with h | h
  all_goals
    go_enter Tryz.func132, Tryz.ntmps132
    go_wp2
    go_ret2
    exact ⟨rfl, Below.refl _ _⟩

theorem in21 (x a b : Int) (w : World) :
    Calls Tryz.prog 59 #[.int .i64 x, .int .i64 a, .int .i64 b] w fun e w' => e = .returned (.bool (decide (a ≤ x ∧ x ≤ b))) ∧ w' = w := by
  by_cases h1 : a ≤ x
  · by_cases h2 : x ≤ b
    · rw [decide_eq_true ⟨h1, h2⟩]
      go_enter Tryz.func59, Tryz.ntmps59
      go_wp2
      go_ret
      exact ⟨by simp, rfl⟩
    · rw [decide_eq_false (by omega)]
      go_enter Tryz.func59, Tryz.ntmps59
      go_wp2
      go_ret
      exact ⟨by simp, rfl⟩
  · rw [decide_eq_false (by omega)]
    go_enter Tryz.func59, Tryz.ntmps59
    go_wp2
    go_ret
    exact ⟨rfl, rfl⟩

end Go.Proofs.YtdifmjcghaoilaaGreatDoor.V

namespace Go.Proofs.YtdifmjcghaoilaaGreatDoor.V
open Go.RowKit Plain Go.PlainAid
set_option linter.unusedVariables false

/-- the number N, if its bytes are those of s from a to b -/
def fin (s : ByteArray) (a b : Nat) (N : Int) : Option (Int × Nat) := if N ≤ 1000000000 ∧ vt N.toNat = (s.extract a b).toList then some (N, b) else none
/-- f bytes more are looked at, from k on -/
def rvF (s : ByteArray) (a : Nat) : Nat → Nat → Int → Int → Option (Int × Nat)
  | 0, _, _, _ => none
  | f + 1, k, N, S => if k < s.size then (if bt s k < 128 then fin s a (k + 1) (N + bt s k % 128 * S) else rvF s a f (k + 1) (N + bt s k % 128 * S) (S * 128)) else none
/-- what ReadVar reads -/
def rv (s : ByteArray) (a : Int) : Option (Int × Nat) := if 0 ≤ a ∧ a ≤ s.size then rvF s a.toNat 5 a.toNat 0 1 else none
def enc3 : Option (Int × Nat) → Value
  | none => .tuple #[.int .i64 0, .int .i64 0, .bool false]
  | some (N, b) => .tuple #[.int .i64 N, .int .i64 b, .bool true]

theorem fin_some {s : ByteArray} {a b : Nat} {N M : Int} {c : Nat} (h0 : 0 ≤ N) (h : fin s a b N = some (M, c)) : 0 ≤ M ∧ M ≤ 1000000000 ∧ c = b := by
  unfold fin at h
  split at h
  · simp at h; omega
  · simp at h
theorem rvF_some {s : ByteArray} {a : Nat} : ∀ (f k : Nat) (N S : Int) {M : Int} {c : Nat}, 0 ≤ N → 0 ≤ S → rvF s a f k N S = some (M, c) → 0 ≤ M ∧ M ≤ 1000000000 ∧ k < c ∧ c ≤ s.size
  | 0, k, N, S, M, c, _, _, h => by simp [rvF] at h
  | f + 1, k, N, S, M, c, h0, hS, h => by
    unfold rvF at h
    have hp : 0 ≤ bt s k % 128 * S := Int.mul_nonneg (by omega) hS
    split at h
    · split at h
      · have := fin_some (by omega) h; omega
      · have := rvF_some f (k + 1) _ _ (by omega) (by omega) h; omega
    · simp at h
theorem rv_some {s : ByteArray} {a M : Int} {c : Nat} (h : rv s a = some (M, c)) : 0 ≤ M ∧ M ≤ 1000000000 ∧ c ≤ s.size := by
  unfold rv at h
  split at h
  · have := rvF_some 5 a.toNat 0 1 (by omega) (by omega) h; omega
  · simp at h

/-- what the byte behind j bytes is worth -/
def sc : Nat → Int
  | 0 => 1
  | j + 1 => sc j * 128
theorem sc_pos : ∀ j, 1 ≤ sc j
  | 0 => by simp [sc]
  | j + 1 => by have := sc_pos j; simp only [sc]; omega
theorem sc_le : ∀ j, j < 5 → sc j ≤ 268435456
  | 0, _ => by decide
  | 1, _ => by decide
  | 2, _ => by decide
  | 3, _ => by decide
  | 4, _ => by decide
  | j + 5, h => by omega
theorem sc_five : sc 5 = 34359738368 := by decide
theorem prod_bd (b S : Int) (hS : 1 ≤ S) : 0 ≤ b % 128 * S ∧ b % 128 * S ≤ 127 * S :=
  ⟨Int.mul_nonneg (by omega) (by omega), Int.mul_le_mul_of_nonneg_right (by omega) (by omega)⟩

theorem fin_yes {s : ByteArray} {a b : Nat} {N : Int} (h : N ≤ 1000000000) (e : (vt N.toNat == (s.extract a b).toList) = true) : fin s a b N = some (N, b) := by
  unfold fin; rw [if_pos ⟨h, by simpa using e⟩]
theorem fin_no {s : ByteArray} {a b : Nat} {N : Int} (e : (vt N.toNat == (s.extract a b).toList) = false) : fin s a b N = none := by
  unfold fin; rw [if_neg (fun h => by rw [h.2] at e; simp at e)]
theorem fin_big {s : ByteArray} {a b : Nat} {N : Int} (h : ¬ N ≤ 1000000000) : fin s a b N = none := by
  unfold fin; rw [if_neg (fun h' => h h'.1)]

set_option maxRecDepth 100000 in
set_option maxHeartbeats 400000 in
theorem exact23 (N : Int) (s : ByteArray) (a b : Nat) (hs : s.size ≤ 1048576) (hab : a ≤ b) (hb : b ≤ s.size) (h0 : 0 ≤ N) (hN : N ≤ 9223372036854775807) (w : World) :
    Calls Tryz.prog 129 #[.int .i64 N, .string s, .int .i64 a, .int .i64 b] w fun e w' => e = .returned (enc3 (fin s a b N)) ∧ Below w.heap.size w w' := by
  by_cases hle : N ≤ 1000000000
  · obtain ⟨n, rfl⟩ := Int.eq_ofNat_of_zero_le h0
    have hn : n ≤ 1000000000 := by omega
    cases e : vt n == (s.extract a b).toList
    · have H : Hid (fin s a b n = none) := fin_no (by simpa using e)
      go_enter Tryz.func129, Tryz.ntmps129
      go_wp2_with fail
      refine (var10 n hn _).mono ?_
      rintro e w1 ⟨rfl, hb1⟩
      go_wp2
      go_ret3
      exact ⟨by rw [H.out]; rfl, hb1⟩
    · have H : Hid (fin s a b n = some ((n : Int), b)) := fin_yes hle (by simpa using e)
      go_enter Tryz.func129, Tryz.ntmps129
      go_wp2_with fail
      refine (var10 n hn _).mono ?_
      rintro e w1 ⟨rfl, hb1⟩
      go_wp2
      go_ret3
      exact ⟨by rw [H.out]; rfl, hb1⟩
  · have H : Hid (fin s a b N = none) := fin_big hle
    go_enter Tryz.func129, Tryz.ntmps129
    go_wp2_with fail
    refine (no10 N (by omega) (by omega) (by omega) _).mono ?_
    rintro e w1 ⟨rfl, hb1⟩
    go_wp2
    go_ret3
    exact ⟨by rw [H.out]; rfl, hb1⟩
end Go.Proofs.YtdifmjcghaoilaaGreatDoor.V

namespace Go.Proofs.YtdifmjcghaoilaaGreatDoor.V
open Go.RowKit Plain Go.PlainAid
set_option linter.unusedVariables false

theorem rvF_fin {s : ByteArray} {a f k : Nat} {N S : Int} (h : k < s.size) (h' : bt s k < 128) : rvF s a (f + 1) k N S = fin s a (k + 1) (N + bt s k % 128 * S) := by
  rw [rvF, if_pos h, if_pos h']
theorem rvF_on {s : ByteArray} {a f k : Nat} {N S : Int} (h : k < s.size) (h' : ¬ bt s k < 128) : rvF s a (f + 1) k N S = rvF s a f (k + 1) (N + bt s k % 128 * S) (S * 128) := by
  rw [rvF, if_pos h, if_neg h']
theorem rvF_end {s : ByteArray} {a f k : Nat} {N S : Int} (h : ¬ k < s.size) : rvF s a f k N S = none := by
  cases f with
  | zero => rfl
  | succ f => rw [rvF, if_neg h]

theorem exact23' (N B : Int) (s : ByteArray) (a b : Nat) (hB : B = b) (hs : s.size ≤ 1048576) (hab : a ≤ b) (hb : b ≤ s.size) (h0 : 0 ≤ N) (hN : N ≤ 9223372036854775807) (w : World) :
    Calls Tryz.prog 129 #[.int .i64 N, .string s, .int .i64 a, .int .i64 B] w fun e w' => e = .returned (enc3 (fin s a b N)) ∧ Below w.heap.size w w' := by
  subst hB; exact exact23 N s a b hs hab hb h0 hN w

set_option maxRecDepth 100000 in
set_option maxHeartbeats 1000000 in
theorem rv12_in (s : ByteArray) (a : Nat) (hs : s.size ≤ 1048576) (ha : a ≤ s.size) (w : World) :
    Calls Tryz.prog 121 #[.string s, .int .i64 a] w fun e w' => e = .returned (enc3 (rvF s a 5 a 0 1)) ∧ Below w.heap.size w w' := by
  have hbt := get_bt s
  go_enter Tryz.func121, Tryz.ntmps121
  go_wp2
  go_loopw [7, 8, 9] (fun n v i wr => ∃ (N : Int) (j f : Nat), f + j = 5 ∧ a + j ≤ s.size ∧ n = .int .i64 N ∧ v = .int .i64 (sc j) ∧ i = .int .i64 (a + j : Nat) ∧ 0 ≤ N ∧ N < sc j ∧ Hid (rvF s a 5 a 0 1 = rvF s a f (a + j) N (sc j)) ∧ wr = w) (fun _ _ i _ => s.size - (intOf i).toNat)
  case atStart => exact ⟨0, 0, 5, rfl, ha, rfl, rfl, rfl, by decide, by decide, (show Hid _ from rfl), rfl⟩
  case round =>
    obtain ⟨N, j, f, hf, hk, rfl, rfl, rfl, h0, hN, H, rfl⟩ := hrel
    obtain ⟨k, hkk⟩ : ∃ k, k = a + j := ⟨_, rfl⟩
    rw [← hkk] at hk H ⊢
    have ha' : a ≤ k := by omega
    have hsc := sc_pos j
    by_cases h1 : k < s.size
    · have hb0 := bt_nonneg s k
      have hb1 := bt_le s k
      have hP := prod_bd (bt s k) (sc j) hsc
      by_cases h2 : j < 5
      · have hle := sc_le j h2
        obtain ⟨f, rfl⟩ : ∃ f', f = f' + 1 := ⟨f - 1, by omega⟩
        by_cases h3 : bt s k < 128
        · rw [rvF_fin h1 h3] at H
          have H2 : Hid (k = a + j) := hkk
          clear hkk
          go_wp2_with fail
          refine (exact23' (N + bt s k % 128 * sc j) (k + 1) s a (k + 1) (by omega) hs (by omega) (by omega) (by omega) (by omega) _).mono ?_
          rintro e w1 ⟨rfl, hb⟩
          rw [← H.out]
          rcases hR : rvF s a 5 a 0 1 with _ | ⟨M, c⟩
          · have HR : Hid (rvF s a 5 a 0 1 = none) := hR
            clear hR
            simp only [enc3]
            go_wp2
            go_ret3
            exact ⟨by rw [HR.out]; rfl, hb⟩
          · have HR : Hid (rvF s a 5 a 0 1 = some (M, c)) := hR
            clear hR
            simp only [enc3]
            go_wp2
            go_ret3
            exact ⟨by rw [HR.out]; rfl, hb⟩
        · rw [rvF_on h1 h3] at H
          have H2 : Hid (k = a + j) := hkk
          clear hkk
          go_wp2_with fail
          go_roundw
          case rel => exact ⟨N + bt s k % 128 * sc j, j + 1, f, by omega, by have := H2.out; omega, by go_num, by simp [sc], by have := H2.out; go_num, by omega, by simp only [sc]; omega, (by have e := H2.out; rw [show a + (j + 1) = k + 1 by omega]; exact H), trivial⟩
          case measure => simp [intOf]; omega
      · have h5 : j = 5 := by omega
        subst h5
        have hfz : f = 0 := by omega
        subst hfz
        rw [sc_five] at *
        have H2 : Hid (k = a + 5) := hkk
        clear hkk
        go_wp2
        go_ret3
        exact ⟨by rw [H.out]; rfl, Below.refl _ _⟩
    · rw [rvF_end h1] at H
      have H2 : Hid (k = a + j) := hkk
      clear hkk
      go_wp2
      go_ret3
      exact ⟨by rw [H.out]; rfl, Below.refl _ _⟩

theorem cut_run (s : ByteArray) (a k : Nat) (h : a ≤ k + 1) (h1 : k < s.size) (w : World) :
    (Instr.slice 9 (.string s) (some (.int .i64 (a : Int))) (some (.int .i64 ((k : Int) + 1))) none).run Tryz.prog w = .ok (.string (s.extract a (k + 1))) w := by
  rw [run_slice_string_if w 9 s .i64 .i64 (a : Int) ((k : Int) + 1) Tryz.underlying9, if_pos (by omega), if_pos (by omega)]
  rfl

theorem var22' (N : Int) (h0 : 0 ≤ N) (hN : N ≤ 1000000000) (w : World) :
    Calls Tryz.prog 94 #[.int .i64 N] w fun e w' => e = .returned (.string ⟨(vt N.toNat).toArray⟩) ∧ Below w.heap.size w w' := by
  obtain ⟨n, rfl⟩ := Int.eq_ofNat_of_zero_le h0
  exact var22 n (by omega) w

set_option maxRecDepth 100000 in
set_option maxHeartbeats 1000000 in
theorem rv11_in (s : ByteArray) (a : Nat) (hs : s.size ≤ 1048576) (ha : a ≤ s.size) (w : World) :
    Calls Tryz.prog 92 #[.string s, .int .i64 a] w fun e w' => e = .returned (enc3 (rvF s a 5 a 0 1)) ∧ Below w.heap.size w w' := by
  have hbt := get_bt s
  go_enter Tryz.func92, Tryz.ntmps92
  go_wp2_with fail
  refine (in21 _ _ _ _).mono ?_
  rintro e w' ⟨rfl, rfl⟩
  rw [decide_eq_true (by omega)]
  go_wp2
  go_loopw [7, 8, 9] (fun n v i wr => ∃ (N : Int) (j f : Nat), f + j = 5 ∧ a + j ≤ s.size ∧ n = .int .i64 N ∧ v = .int .i64 (sc j) ∧ i = .int .i64 (a + j : Nat) ∧ 0 ≤ N ∧ N < sc j ∧ Hid (rvF s a 5 a 0 1 = rvF s a f (a + j) N (sc j)) ∧ wr = w') (fun _ _ i _ => s.size - (intOf i).toNat)
  case atStart => exact ⟨0, 0, 5, rfl, ha, rfl, rfl, rfl, by decide, by decide, (show Hid _ from rfl), rfl⟩
  case round =>
    obtain ⟨N, j, f, hf, hk, rfl, rfl, rfl, h0, hN, H, rfl⟩ := hrel
    obtain ⟨k, hkk⟩ : ∃ k, k = a + j := ⟨_, rfl⟩
    rw [← hkk] at hk H ⊢
    have ha' : a ≤ k := by omega
    have hsc := sc_pos j
    have H2 : Hid (k = a + j) := hkk
    by_cases h1 : k < s.size
    · have hb0 := bt_nonneg s k
      have hb1 := bt_le s k
      have hP := prod_bd (bt s k) (sc j) hsc
      by_cases h2 : j < 5
      · have hle := sc_le j h2
        have hk5 : k < a + 5 := by omega
        clear hkk
        obtain ⟨f, rfl⟩ : ∃ f', f = f' + 1 := ⟨f - 1, by omega⟩
        by_cases h3 : bt s k < 128
        · rw [rvF_fin h1 h3] at H
          go_wp2
          have hM0 : 0 ≤ N + bt s k % 128 * sc j := by omega
          have hsl := cut_run s a k (by omega) h1
          have hwr : IntKind.i64.wrap ((k : Int) + 1) = (k : Int) + 1 := IntWalk.i64_in _ (by omega)
          generalize hM : N + bt s k % 128 * sc j = M at *
          clear hM hP hN h0 hsc hle hb0 hb1 h3 hf h2 hk5
          by_cases h4 : M ≤ 1000000000
          · have hd : decide (1000000000 < M) = false := by simp; omega
            cases e : vt M.toNat == (s.extract a (k + 1)).toList
            · rw [fin_no e] at H
              go_region_held3 (fun _ => True) (trivial) (first | (go_at_call 94; refine (var22' _ hM0 h4 _).mono ?_; rintro e w1 ⟨rfl, hb⟩))
              go_wp2
              go_ret3
              exact ⟨by rw [H.out]; rfl, (Below.refl _ _).drew.trans hb⟩
            · rw [fin_yes h4 e] at H
              go_region_held3 (fun _ => True) (trivial) (first | (go_at_call 94; refine (var22' _ hM0 h4 _).mono ?_; rintro e w1 ⟨rfl, hb⟩))
              go_wp2
              go_ret3
              exact ⟨by rw [H.out]; rfl, (Below.refl _ _).drew.trans hb⟩
          · rw [fin_big h4] at H
            have hd : decide (1000000000 < M) = true := by simp; omega
            go_quiet (fail)
            go_wp2
            go_ret3
            exact ⟨by rw [H.out]; rfl, below_drewN (Below.refl _ _) _⟩
        · rw [rvF_on h1 h3] at H
          go_wp2_with fail
          go_roundw
          case rel => exact ⟨N + bt s k % 128 * sc j, j + 1, f, by omega, by have := H2.out; omega, by go_num, by simp [sc], by have := H2.out; go_num, by omega, by simp only [sc]; omega, (by have e := H2.out; rw [show a + (j + 1) = k + 1 by omega]; exact H), trivial⟩
          case measure => simp [intOf]; omega
      · have hk5 : a + 5 ≤ k := by omega
        have hfz : f = 0 := by omega
        subst hfz
        clear hkk
        go_wp2
        go_ret3
        exact ⟨by rw [H.out]; rfl, Below.refl _ _⟩
    · rw [rvF_end h1] at H
      clear hkk
      go_wp2
      go_ret3
      exact ⟨by rw [H.out]; rfl, Below.refl _ _⟩

theorem rv11 (s : ByteArray) (a : Int) (hs : s.size ≤ 1048576) (w : World) :
    Calls Tryz.prog 92 #[.string s, .int .i64 a] w fun e w' => e = .returned (enc3 (rv s a)) ∧ Below w.heap.size w w' := by
  by_cases h : 0 ≤ a ∧ a ≤ s.size
  · obtain ⟨n, rfl⟩ := Int.eq_ofNat_of_zero_le h.1
    rw [rv, if_pos h]
    exact rv11_in s n hs (by omega) w
  · rw [rv, if_neg h]
    go_enter Tryz.func92, Tryz.ntmps92
    go_wp2_with fail
    refine (in21 _ _ _ _).mono ?_
    rintro e w' ⟨rfl, rfl⟩
    rw [decide_eq_false h]
    clear h
    go_wp2
    go_ret3
    exact ⟨rfl, Below.refl _ _⟩

theorem rv12 (s : ByteArray) (a : Int) (hs : s.size ≤ 1048576) (w : World) :
    Calls Tryz.prog 121 #[.string s, .int .i64 a] w fun e w' => e = .returned (enc3 (rv s a)) ∧ Below w.heap.size w w' := by
  by_cases h : 0 ≤ a ∧ a ≤ s.size
  · obtain ⟨n, rfl⟩ := Int.eq_ofNat_of_zero_le h.1
    rw [rv, if_pos h]
    exact rv12_in s n hs (by omega) w
  · rw [rv, if_neg h]
    by_cases h1 : a < 0
    · go_enter Tryz.func121, Tryz.ntmps121
      go_wp2
      go_ret3
      exact ⟨rfl, Below.refl _ _⟩
    · have h2 : s.size < a := by omega
      clear h
      go_enter Tryz.func121, Tryz.ntmps121
      go_wp2
      go_ret3
      exact ⟨rfl, Below.refl _ _⟩
end Go.Proofs.YtdifmjcghaoilaaGreatDoor.V

namespace Go.Proofs.YtdifmjcghaoilaaGreatDoor.V
open Go.RowKit Plain Go.PlainAid
set_option linter.unusedVariables false

/-- the byte at k, out of what stands from k on -/
theorem bt_drop {s : ByteArray} {k : Nat} {b : UInt8} {l : List UInt8} (h : s.data.toList.drop k = b :: l) : k < s.size ∧ bt s k = (b.toNat : Int) ∧ s.data.toList.drop (k + 1) = l := by
  have hk : k < s.data.toList.length := by
    rcases Nat.lt_or_ge k s.data.toList.length with h' | h'
    · exact h'
    · rw [List.drop_of_length_le h'] at h; cases h
  have hk' : k < s.size := by rw [Array.length_toList] at hk; exact hk
  have e := List.drop_eq_getElem_cons hk
  rw [h] at e
  injection e with e1 e2
  refine ⟨hk', ?_, e2.symm⟩
  rw [← get_bt s k hk', e1]
  rfl
theorem ext_list (s : ByteArray) (a b : Nat) : (s.extract a b).data.toList = (s.data.toList.drop a).take (b - a) := by
  rw [ByteArray.data_extract, Array.toList_extract]

theorem rv_back : ∀ (f : Nat) (s : ByteArray) (a k m : Nat) (N S : Int) (post : List UInt8), (vt m).length ≤ f → s.data.toList.drop k = vt m ++ post → rvF s a f k N S = fin s a (k + (vt m).length) (N + (m : Int) * S)
  | 0, s, a, k, m, N, S, post, hf, _ => absurd (vt_pos m) (by omega)
  | f + 1, s, a, k, m, N, S, post, hf, hd => by
    by_cases hb : 127 < m
    · have hv := vt_big hb
      rw [hv] at hd hf ⊢
      simp only [List.cons_append] at hd
      obtain ⟨h1, h2, h3⟩ := bt_drop hd
      rw [toNat_big] at h2
      have hn : ¬ bt s k < 128 := by omega
      have hm : bt s k % 128 = (m : Int) % 128 := by omega
      rw [rvF_on h1 hn, rv_back f s a (k + 1) (m / 128) _ _ post (by simpa using hf) h3, hm]
      congr 1
      · simp only [List.length_cons]; omega
      · have e : (m : Int) = (m : Int) % 128 + 128 * ((m / 128 : Nat) : Int) := by omega
        conv => rhs; rw [e, Int.add_mul]
        rw [Int.add_assoc, Int.mul_assoc, Int.mul_comm 128 _, Int.mul_assoc]
    · have hv := vt_small hb
      rw [hv] at hd ⊢
      simp only [List.cons_append, List.nil_append] at hd
      obtain ⟨h1, h2, h3⟩ := bt_drop hd
      rw [toNat_small hb] at h2
      have hn : bt s k < 128 := by omega
      have hm : bt s k % 128 = (m : Int) := by omega
      rw [rvF_fin h1 hn, hm]
      rfl
theorem vt_short : ∀ (f n : Nat), n < 128 ^ (f + 1) → (vt n).length ≤ f + 1
  | 0, n, h => by rw [vt_small (by simp at h; omega)]; simp
  | f + 1, n, h => by
    by_cases hb : 127 < n
    · rw [vt_big hb]
      have := vt_short f (n / 128) (by rw [Nat.pow_succ] at h; omega)
      simp only [List.length_cons]; omega
    · rw [vt_small hb]; simp
theorem vt_five {n : Nat} (h : n ≤ 1000000000) : (vt n).length ≤ 5 := by
  have e : (128 : Nat) ^ (4 + 1) = 34359738368 := by decide
  exact vt_short 4 n (by omega)
/-- a number's bytes are read back, wherever they stand -/
theorem rv_at {s : ByteArray} {a n : Nat} {post : List UInt8} (hn : n ≤ 1000000000) (hd : s.data.toList.drop a = vt n ++ post) (ha : a ≤ s.size) : rv s (a : Int) = some ((n : Int), a + (vt n).length) := by
  unfold rv
  rw [if_pos (by omega), show (a : Int).toNat = a from rfl, rv_back 5 s a a n 0 1 post (vt_five hn) hd]
  rw [show (0 : Int) + (n : Int) * 1 = (n : Int) by omega]
  refine fin_yes (by omega) ?_
  rw [ByteArray.toList_eq, ext_list, hd]
  simp
theorem size_list (s : ByteArray) : s.size = s.data.toList.length := (Array.length_toList ..).symm

end Go.Proofs.YtdifmjcghaoilaaGreatDoor.V

namespace Go.Proofs.YtdifmjcghaoilaaGreatDoor.Q
set_option linter.unusedVariables false

/-- one of the eight steps -/
def half (x : Nat) : Nat := if x % 2 = 1 then x / 2 ^^^ 3558460437 else x / 2
theorem half_odd {x : Nat} (h : x % 2 = 1) : half x = x / 2 ^^^ 3558460437 := by unfold half; rw [if_pos h]
theorem half_even {x : Nat} (h : x % 2 = 0) : half x = x / 2 := by unfold half; rw [if_neg (by omega)]
theorem half_lt {x : Nat} (h : x < 4294967296) : half x < 4294967296 := by
  unfold half; split
  · exact Nat.xor_lt_two_pow (n := 32) (by omega) (by omega)
  · omega
theorem xor_top {x : Nat} (h : x < 2147483648) : 2147483648 ≤ x ^^^ 3558460437 := by
  have e : (x ^^^ 3558460437).testBit 31 = true := by
    rw [Nat.testBit_xor, Nat.testBit_lt_two_pow (i := 31) (by omega)]
    decide
  have := Nat.ge_two_pow_of_testBit e
  omega
theorem xor_can {x y p : Nat} (h : x ^^^ p = y ^^^ p) : x = y := by
  have := congrArg (· ^^^ p) h
  simpa [Nat.xor_assoc] using this
theorem half_inj {x y : Nat} (hx : x < 4294967296) (hy : y < 4294967296) (h : half x = half y) : x = y := by
  unfold half at h
  split at h <;> split at h
  · have := xor_can h; omega
  · have := xor_top (x := x / 2) (by omega); omega
  · have := xor_top (x := y / 2) (by omega); omega
  · omega
theorem xor_half (x y : Nat) : (x ^^^ y) / 2 = x / 2 ^^^ y / 2 := by
  apply Nat.eq_of_testBit_eq
  intro i
  simp [Nat.testBit_xor, Nat.testBit_div_two]
theorem xor_odd (x y : Nat) : (x ^^^ y) % 2 = (x + y) % 2 := by
  have h : (x ^^^ y).testBit 0 = (x.testBit 0 ^^ y.testBit 0) := Nat.testBit_xor ..
  simp only [Nat.testBit_zero] at h
  have hx := Nat.mod_two_eq_zero_or_one x
  have hy := Nat.mod_two_eq_zero_or_one y
  have hz := Nat.mod_two_eq_zero_or_one (x ^^^ y)
  rcases hx with hx | hx <;> rcases hy with hy | hy <;> rcases hz with hz | hz <;> simp [hx, hy, hz] at h <;> omega
theorem half_xor (x y : Nat) : half (x ^^^ y) = half x ^^^ half y := by
  have o := xor_odd x y
  have e := xor_half x y
  rcases Nat.mod_two_eq_zero_or_one x with hx | hx <;> rcases Nat.mod_two_eq_zero_or_one y with hy | hy
  · rw [half_even hx, half_even hy, half_even (by omega), e]
  · rw [half_even hx, half_odd hy, half_odd (by omega), e, Nat.xor_assoc]
  · rw [half_odd hx, half_even hy, half_odd (by omega), e, Nat.xor_assoc, Nat.xor_assoc, Nat.xor_comm (y / 2)]
  · rw [half_odd hx, half_odd hy, half_even (by omega), e, Nat.xor_assoc, Nat.xor_comm 3558460437, Nat.xor_assoc, Nat.xor_self, Nat.xor_zero]

def fourH (x : Nat) : Nat := half (half (half (half x)))
theorem fourH_lt {x : Nat} (h : x < 4294967296) : fourH x < 4294967296 := half_lt (half_lt (half_lt (half_lt h)))
theorem fourH_inj {x y : Nat} (hx : x < 4294967296) (hy : y < 4294967296) (h : fourH x = fourH y) : x = y :=
  half_inj hx hy (half_inj (half_lt hx) (half_lt hy) (half_inj (half_lt (half_lt hx)) (half_lt (half_lt hy)) (half_inj (half_lt (half_lt (half_lt hx))) (half_lt (half_lt (half_lt hy))) h)))
theorem fourH_xor (x y : Nat) : fourH (x ^^^ y) = fourH x ^^^ fourH y := by
  unfold fourH; rw [half_xor, half_xor, half_xor, half_xor]
theorem fourH_low (q : Nat) : fourH (16 * q) = q := by
  unfold fourH
  rw [half_even (x := 16 * q) (by omega), half_even (x := 16 * q / 2) (by omega), half_even (x := 16 * q / 2 / 2) (by omega), half_even (x := 16 * q / 2 / 2 / 2) (by omega)]
  omega
/-- what four steps make of the lowest four bits -/
def tab : Nat → Nat
  | 0 => 0 | 1 => 1166650509 | 2 => 2333301018 | 3 => 3466261911 | 4 => 3189058079 | 5 => 4221339282 | 6 => 889615109 | 7 => 1888477064
  | 8 => 3558460437 | 9 => 2442158232 | 10 => 1594529039 | 11 => 444807554 | 12 => 1779230218 | 13 => 797264519 | 14 => 3776954128 | 15 => 2761298845
  | _ => 0
theorem tab_at : ∀ r : Nat, r < 16 → fourH r = tab r := by decide
theorem tab_lt : ∀ r : Nat, tab r < 4294967296 := by
  intro r; unfold tab; split <;> omega
theorem low_xor (q r : Nat) (h : r < 16) : 16 * q + r = 16 * q ^^^ r := by
  apply Nat.eq_of_testBit_eq
  intro i
  rw [Nat.testBit_xor, show 16 * q = 2 ^ 4 * q by omega, Nat.testBit_two_pow_mul_add _ (by omega), Nat.testBit_two_pow_mul]
  by_cases h4 : i < 4
  · simp [h4, show ¬ 4 ≤ i by omega]
  · have : r.testBit i = false := Nat.testBit_lt_two_pow (Nat.lt_of_lt_of_le h (by exact Nat.pow_le_pow_right (n := 2) (by omega) (show 4 ≤ i by omega)))
    simp [h4, this]; intro hh; omega
theorem fourH_tab (x : Nat) : fourH x = x / 16 ^^^ tab (x % 16) := by
  have e : x = 16 * (x / 16) ^^^ x % 16 := by rw [← low_xor _ _ (by omega)]; omega
  conv => lhs; rw [e]
  rw [fourH_xor, fourH_low, tab_at _ (by omega)]
def eight (x : Nat) : Nat := fourH (fourH x)
theorem eight_lt {x : Nat} (h : x < 4294967296) : eight x < 4294967296 := fourH_lt (fourH_lt h)
theorem eight_inj {x y : Nat} (hx : x < 4294967296) (hy : y < 4294967296) (h : eight x = eight y) : x = y :=
  fourH_inj hx hy (fourH_inj (fourH_lt hx) (fourH_lt hy) h)
/-- so many of the eight steps -/
def halves : Nat → Nat → Nat
  | 0, y => y
  | k + 1, y => half (halves k y)
theorem halves_eight (y : Nat) : halves 8 y = eight y := rfl
theorem halves_lt {y : Nat} (h : y < 4294967296) (k : Nat) : halves k y < 4294967296 := by
  induction k with
  | zero => exact h
  | succ k ih => exact half_lt ih
theorem halves_odd {y k : Nat} (h : halves k y % 2 = 1) : halves (k + 1) y = halves k y / 2 ^^^ 3558460437 := half_odd h
theorem halves_even {y k : Nat} (h : halves k y % 2 = 0) : halves (k + 1) y = halves k y / 2 := half_even h
theorem byte_lt {x : Nat} (h : x < 4294967296) (c : UInt8) : x ^^^ c.toNat < 4294967296 :=
  Nat.xor_lt_two_pow (n := 32) (by omega) (by have := c.toNat_lt; omega)

/-- the sum, byte by byte -/
def crc (x : Nat) (l : List UInt8) : Nat := l.foldl (fun x c => eight (x ^^^ c.toNat)) x
theorem crc_snoc (x : Nat) (l : List UInt8) (c : UInt8) : crc x (l ++ [c]) = eight (crc x l ^^^ c.toNat) := by
  unfold crc; rw [List.foldl_append]; rfl
theorem crc_app (x : Nat) (l m : List UInt8) : crc x (l ++ m) = crc (crc x l) m := by
  unfold crc; rw [List.foldl_append]
theorem crc_lt {x : Nat} (h : x < 4294967296) (l : List UInt8) : crc x l < 4294967296 := by
  induction l generalizing x with
  | nil => exact h
  | cons c l ih => exact ih (eight_lt (byte_lt h c))
theorem crc_inj {x y : Nat} (hx : x < 4294967296) (hy : y < 4294967296) (l : List UInt8) (h : crc x l = crc y l) : x = y := by
  induction l generalizing x y with
  | nil => exact h
  | cons c l ih => exact xor_can (eight_inj (byte_lt hx c) (byte_lt hy c) (ih (eight_lt (byte_lt hx c)) (eight_lt (byte_lt hy c)) h))
/-- one byte that is another makes another sum -/
theorem crc_turned {x : Nat} (hx : x < 4294967296) (l m : List UInt8) (c d : UInt8) (h : crc x (l ++ c :: m) = crc x (l ++ d :: m)) : c = d := by
  rw [crc_app, crc_app] at h
  have hl := crc_lt hx l
  have e : eight (crc x l ^^^ c.toNat) = eight (crc x l ^^^ d.toNat) := crc_inj (eight_lt (byte_lt hl c)) (eight_lt (byte_lt hl d)) m h
  have e2 := eight_inj (byte_lt hl c) (byte_lt hl d) e
  rw [Nat.xor_comm, Nat.xor_comm _ d.toNat] at e2
  exact UInt8.toNat_inj.1 (xor_can e2)
theorem crc_take (x : Nat) (s : ByteArray) (k : Nat) (h : k < s.size) : crc x (s.data.toList.take (k + 1)) = eight (crc x (s.data.toList.take k) ^^^ s[k].toNat) := by
  rw [← crc_snoc, List.take_succ_eq_append_getElem (by simpa using h)]; rfl

/-- a sum's four bytes, the highest first -/
def fourB (x : Nat) : List UInt8 := [UInt8.ofNat (x / 16777216), UInt8.ofNat (x / 65536), UInt8.ofNat (x / 256), UInt8.ofNat x]
theorem fourB_inj {x y : Nat} (hx : x < 4294967296) (hy : y < 4294967296) (h : fourB x = fourB y) : x = y := by
  unfold fourB at h
  simp only [List.cons.injEq, ← UInt8.toNat_inj, UInt8.toNat_ofNat'] at h
  obtain ⟨h1, h2, h3, h4, -⟩ := h
  omega
theorem fourB_len (x : Nat) : (fourB x).length = 4 := rfl
end Go.Proofs.YtdifmjcghaoilaaGreatDoor.Q

namespace Go.Proofs.YtdifmjcghaoilaaGreatDoor
open Go.RowKit Go.PlainAid
set_option linter.unusedVariables false

section
variable {P : Program} {md : Region.Mode} {ops : Array Oper} {Q : Exit → Act → World → Prop} {S : World → Prop}
theorem any_states {σ : Type} (L : σ → Array Bool) (E : σ → List Nat) (rk : σ → Nat) (ok fin : σ → Bool) (St : σ → Act → World → Prop)
    (hrd : ∀ s, ok s = true → fin s = false → Region.ready md ops (L s) = E s ∧ E s ≠ [] ∧ 0 < rk s)
    (hst : ∀ s i, ok s = true → fin s = false → i ∈ E s → ∃ s', (L s).setIfInBounds i true = L s' ∧ ok s' = true ∧ rk s' < rk s ∧ ∀ a w, S w → St s a w → wpOp P ops Q i (fun a' w' => S w' ∧ St s' a' w') a w)
    (hfi : ∀ s a w f, ok s = true → fin s = true → rk s ≤ f → S w → St s a w → wpAnyH P md ops Q S f (L s) a w) :
    ∀ n s a w f, rk s ≤ n → rk s ≤ f → ok s = true → S w → St s a w → wpAnyH P md ops Q S f (L s) a w := by
  intro n
  induction n with
  | zero =>
    intro s a w f hn hf hok hS hSt
    cases hfs : fin s with
    | true => exact hfi s a w f hok hfs hf hS hSt
    | false => have := (hrd s hok hfs).2.2; omega
  | succ n ih =>
    intro s a w f hn hf hok hS hSt
    cases hfs : fin s with
    | true => exact hfi s a w f hok hfs hf hS hSt
    | false =>
      obtain ⟨h1, h2, h3⟩ := hrd s hok hfs
      obtain ⟨f', rfl⟩ : ∃ f', f = f' + 1 := ⟨f - 1, by omega⟩
      refine ⟨fun h => absurd (h1 ▸ h) h2, fun i hi => ?_⟩
      rw [h1] at hi
      obtain ⟨s', e1, e2, e3, e4⟩ := hst s i hok hfs hi
      exact wpOp_mono (fun a' w' h => ⟨h.1, by rw [e1]; exact ih s' a' w' f' (by omega) (by omega) e2 h.1 h.2⟩) (e4 a w hS hSt)
end
end Go.Proofs.YtdifmjcghaoilaaGreatDoor

namespace Go.Proofs.YtdifmjcghaoilaaGreatDoor
open Go.RowKit Go.PlainAid
set_option linter.unusedVariables false

theorem put_self (a : Act) (d : Nat) : a.put (some d) (a.tmps.getD d undef) = a := by
  cases a with
  | mk tmps defers =>
    simp only [Act.put]
    congr 1
    apply Array.ext_getElem?
    intro i
    rw [Array.getElem?_setIfInBounds]
    by_cases h : d = i
    · subst h
      by_cases h2 : d < tmps.size
      · simp [h2, Array.getD]
      · simp [h2]
    · simp [h]
def remB (x y z : Bool) : Nat := (if x then 0 else 1) + (if y then 0 else 1) + (if z then 0 else 1)
section
variable {P : Program} {md : Region.Mode} {ops : Array Oper} {Q : Exit → Act → World → Prop} {S : World → Prop}

/-- one more operation of the chain, c; i1, i2, i3 make the variables -/
theorem stage3 {i1 i2 i3 c : Nat} (L L' : Bool → Bool → Bool → Array Bool) (St St' : Bool → Bool → Bool → Act → World → Prop) (K : Nat)
    (hr : ∀ x y z, ∀ i ∈ Region.ready md ops (L x y z), i = c ∨ (i = i1 ∧ x = false) ∨ (i = i2 ∧ y = false) ∨ (i = i3 ∧ z = false))
    (hne : ∀ x y z, Region.ready md ops (L x y z) ≠ [])
    (h1 : ∀ y z, (L false y z).setIfInBounds i1 true = L true y z) (h2 : ∀ x z, (L x false z).setIfInBounds i2 true = L x true z) (h3 : ∀ x y, (L x y false).setIfInBounds i3 true = L x y true)
    (hc : ∀ x y z, (L x y z).setIfInBounds c true = L' x y z)
    (s1 : ∀ y z a w, S w → St false y z a w → wpOp P ops Q i1 (fun a' w' => S w' ∧ St true y z a' w') a w)
    (s2 : ∀ x z a w, S w → St x false z a w → wpOp P ops Q i2 (fun a' w' => S w' ∧ St x true z a' w') a w)
    (s3 : ∀ x y a w, S w → St x y false a w → wpOp P ops Q i3 (fun a' w' => S w' ∧ St x y true a' w') a w)
    (sc : ∀ x y z a w, S w → St x y z a w → wpOp P ops Q c (fun a' w' => S w' ∧ St' x y z a' w') a w)
    (next : ∀ x y z f a w, K + remB x y z ≤ f → S w → St' x y z a w → wpAnyH P md ops Q S f (L' x y z) a w) :
    ∀ x y z f a w, K + 1 + remB x y z ≤ f → S w → St x y z a w → wpAnyH P md ops Q S f (L x y z) a w := by
  have key : ∀ n x y z f a w, remB x y z = n → K + 1 + n ≤ f → S w → St x y z a w → wpAnyH P md ops Q S f (L x y z) a w := by
    intro n
    induction n with
    | zero =>
      intro x y z f a w hn hf hS hSt
      obtain ⟨f', rfl⟩ : ∃ f', f = f' + 1 := ⟨f - 1, by omega⟩
      refine ⟨fun h => absurd h (hne x y z), fun i hi => ?_⟩
      rcases hr x y z i hi with rfl | ⟨rfl, rfl⟩ | ⟨rfl, rfl⟩ | ⟨rfl, rfl⟩
      · exact wpOp_mono (fun a' w' h => ⟨h.1, by rw [hc]; exact next x y z f' a' w' (by omega) h.1 h.2⟩) (sc x y z a w hS hSt)
      · simp [remB] at hn
      · simp [remB] at hn
      · simp [remB] at hn
    | succ n ih =>
      intro x y z f a w hn hf hS hSt
      obtain ⟨f', rfl⟩ : ∃ f', f = f' + 1 := ⟨f - 1, by omega⟩
      refine ⟨fun h => absurd h (hne x y z), fun i hi => ?_⟩
      rcases hr x y z i hi with rfl | ⟨rfl, rfl⟩ | ⟨rfl, rfl⟩ | ⟨rfl, rfl⟩
      · exact wpOp_mono (fun a' w' h => ⟨h.1, by rw [hc]; exact next x y z f' a' w' (by omega) h.1 h.2⟩) (sc x y z a w hS hSt)
      · exact wpOp_mono (fun a' w' h => ⟨h.1, by rw [h1]; exact ih true y z f' a' w' (by simp [remB] at hn ⊢; omega) (by omega) h.1 h.2⟩) (s1 y z a w hS hSt)
      · exact wpOp_mono (fun a' w' h => ⟨h.1, by rw [h2]; exact ih x true z f' a' w' (by simp [remB] at hn ⊢; omega) (by omega) h.1 h.2⟩) (s2 x z a w hS hSt)
      · exact wpOp_mono (fun a' w' h => ⟨h.1, by rw [h3]; exact ih x y true f' a' w' (by simp [remB] at hn ⊢; omega) (by omega) h.1 h.2⟩) (s3 x y a w hS hSt)
  exact fun x y z f a w hf hS hSt => key _ x y z f a w rfl hf hS hSt

/-- the chain is over: what is left to be made is made -/
theorem stage3e {i1 i2 i3 : Nat} (L : Bool → Bool → Bool → Array Bool) (St : Bool → Bool → Bool → Act → World → Prop) (K : Nat)
    (hr : ∀ x y z, (x = false ∨ y = false ∨ z = false) → ∀ i ∈ Region.ready md ops (L x y z), (i = i1 ∧ x = false) ∨ (i = i2 ∧ y = false) ∨ (i = i3 ∧ z = false))
    (hne : ∀ x y z, Region.ready md ops (L x y z) ≠ [])
    (h1 : ∀ y z, (L false y z).setIfInBounds i1 true = L true y z) (h2 : ∀ x z, (L x false z).setIfInBounds i2 true = L x true z) (h3 : ∀ x y, (L x y false).setIfInBounds i3 true = L x y true)
    (s1 : ∀ y z a w, S w → St false y z a w → wpOp P ops Q i1 (fun a' w' => S w' ∧ St true y z a' w') a w)
    (s2 : ∀ x z a w, S w → St x false z a w → wpOp P ops Q i2 (fun a' w' => S w' ∧ St x true z a' w') a w)
    (s3 : ∀ x y a w, S w → St x y false a w → wpOp P ops Q i3 (fun a' w' => S w' ∧ St x y true a' w') a w)
    (fin : ∀ f a w, K ≤ f → S w → St true true true a w → wpAnyH P md ops Q S f (L true true true) a w) :
    ∀ x y z f a w, K + remB x y z ≤ f → S w → St x y z a w → wpAnyH P md ops Q S f (L x y z) a w := by
  have key : ∀ n x y z f a w, remB x y z = n → K + n ≤ f → S w → St x y z a w → wpAnyH P md ops Q S f (L x y z) a w := by
    intro n
    induction n with
    | zero =>
      intro x y z f a w hn hf hS hSt
      have hx : x = true := by cases x <;> simp [remB] at hn ⊢
      have hy : y = true := by cases y <;> simp [remB] at hn ⊢
      have hz : z = true := by cases z <;> simp [remB] at hn ⊢
      subst hx hy hz
      exact fin f a w (by omega) hS hSt
    | succ n ih =>
      intro x y z f a w hn hf hS hSt
      obtain ⟨f', rfl⟩ : ∃ f', f = f' + 1 := ⟨f - 1, by omega⟩
      have hp : x = false ∨ y = false ∨ z = false := by cases x <;> cases y <;> cases z <;> simp [remB] at hn ⊢
      refine ⟨fun h => absurd h (hne x y z), fun i hi => ?_⟩
      rcases hr x y z hp i hi with ⟨rfl, rfl⟩ | ⟨rfl, rfl⟩ | ⟨rfl, rfl⟩
      · exact wpOp_mono (fun a' w' h => ⟨h.1, by rw [h1]; exact ih true y z f' a' w' (by simp [remB] at hn ⊢; omega) (by omega) h.1 h.2⟩) (s1 y z a w hS hSt)
      · exact wpOp_mono (fun a' w' h => ⟨h.1, by rw [h2]; exact ih x true z f' a' w' (by simp [remB] at hn ⊢; omega) (by omega) h.1 h.2⟩) (s2 x z a w hS hSt)
      · exact wpOp_mono (fun a' w' h => ⟨h.1, by rw [h3]; exact ih x y true f' a' w' (by simp [remB] at hn ⊢; omega) (by omega) h.1 h.2⟩) (s3 x y a w hS hSt)
  exact fun x y z f a w hf hS hSt => key _ x y z f a w rfl hf hS hSt

/-- an operation that yields whatever the world, taken ahead of all others -/
theorem stageT {i : Nat} {oi : Oper} (hi : ops[i]? = some oi) (hs : Region.noSelect ops = true) (L L' : Bool → Bool → Bool → Array Bool) (St St' : Bool → Bool → Bool → Act → World → Prop) (K : Nat)
    (hf : ∀ x y z, Region.free md ops (L x y z) i = true) (hr : ∀ x y z, (Region.ready md ops (L x y z)).contains i = true)
    (hc : ∀ x y z, (L x y z).setIfInBounds i true = L' x y z)
    (hQ : ∀ v c a w, Q (.panic c) (a.put oi.dst v) w → Q (.panic c) a w)
    (hy : ∀ x y z a w, S w → St x y z a w → ∃ v, YieldsIf P ops S oi v a ∧ St' x y z (a.put oi.dst v) w)
    (next : ∀ x y z f a w, K + remB x y z ≤ f → S w → St' x y z a w → wpAnyH P md ops Q S f (L' x y z) a w) :
    ∀ x y z f a w, K + 1 + remB x y z ≤ f → S w → St x y z a w → wpAnyH P md ops Q S f (L x y z) a w := by
  intro x y z f a w hf' hS hSt
  obtain ⟨f', rfl⟩ : ∃ f', f = f' + 1 := ⟨f - 1, by omega⟩
  obtain ⟨v, hy1, hy2⟩ := hy x y z a w hS hSt
  refine wpAnyH_take hi hs (hf x y z) (hr x y z) (hQ v) hy1 hS ?_
  rw [hc]
  exact next x y z f' _ w (by omega) hS hy2

theorem mem_kernel {l : Array Bool} {rs : List Nat} {i : Nat} (h : Region.ready md ops l = rs) (hi : i ∈ Region.ready md ops l) : i ∈ rs := h ▸ hi
theorem ne_kernel {l : Array Bool} {rs : List Nat} (h : Region.ready md ops l = rs) (hn : rs ≠ []) : Region.ready md ops l ≠ [] := h ▸ hn
theorem main_go {L : Bool → Bool → Bool → Array Bool} {St : Bool → Bool → Bool → Act → World → Prop} {K : Nat}
    (h : ∀ x y z f a w, K + remB x y z ≤ f → S w → St x y z a w → wpAnyH P md ops Q S f (L x y z) a w) {fuel : Nat} {listed : Array Bool} {a : Act} {w : World} (hl : listed = L false false false) (hf : K + 3 ≤ fuel) (hS : S w) (hSt : St false false false a w) : wpAnyH P md ops Q S fuel listed a w := by
  subst hl; exact h false false false fuel a w hf hS hSt
theorem wpAnyH_named {fuel : Nat} {listed : Array Bool} {a : Act} {w : World} (h : ∀ a0, a0 = a → wpAnyH P md ops Q S fuel listed a0 w) : wpAnyH P md ops Q S fuel listed a w := h a rfl
end
end Go.Proofs.YtdifmjcghaoilaaGreatDoor

namespace Go.Proofs.YtdifmjcghaoilaaGreatDoor
open Go.RowKit Go.PlainAid
set_option linter.unusedVariables false
set_option linter.unusedSimpArgs false

theorem box8_cells {w : World} {k : Nat} {t : TypeId} {x0 x1 x2 x3 x4 x5 x6 x7 : Value} (h : w.heap[k]? = some (.cells #[x0, x1, x2, x3, x4, x5, x6, x7] t)) :
    (w.cell? ⟨k, 0, none⟩ = some x0 ∧ w.cell? ⟨k, 1, none⟩ = some x1 ∧ w.cell? ⟨k, 2, none⟩ = some x2 ∧ w.cell? ⟨k, 3, none⟩ = some x3 ∧ w.cell? ⟨k, 4, none⟩ = some x4 ∧ w.cell? ⟨k, 5, none⟩ = some x5 ∧ w.cell? ⟨k, 6, none⟩ = some x6 ∧ w.cell? ⟨k, 7, none⟩ = some x7) ∧ w.frozen? ⟨k, 0, none⟩ = false ∧ w.frozen? ⟨k, 1, none⟩ = false ∧ w.frozen? ⟨k, 2, none⟩ = false ∧ w.frozen? ⟨k, 3, none⟩ = false ∧ w.frozen? ⟨k, 4, none⟩ = false ∧ w.frozen? ⟨k, 5, none⟩ = false ∧ w.frozen? ⟨k, 6, none⟩ = false ∧ w.frozen? ⟨k, 7, none⟩ = false := by
  refine ⟨⟨?_, ?_, ?_, ?_, ?_, ?_, ?_, ?_⟩, ?_, ?_, ?_, ?_, ?_, ?_, ?_, ?_⟩ <;> simp [World.cell?, World.frozen?, h]
theorem alP (w : World) (o : Obj) : Below w.heap.size w (w.alloc o) := (Below.refl _ _).alloc (Nat.le_refl _) _
theorem pm_yes {p : Pm} {b : Bool} (hb : b = true ↔ p.ok) (h : p.ok) : b = true := hb.2 h
theorem pm_no {p : Pm} {b : Bool} (hb : b = true ↔ p.ok) (h : ¬ p.ok) : b = false := by
  cases b
  · rfl
  · exact absurd (hb.1 rfl) h
theorem rat_yes {n d r : Int} (h : ratR n d r) : rateOk n d r = true := decide_eq_true h
theorem rat_no {n d r : Int} (h : ¬ ratR n d r) : rateOk n d r = false := decide_eq_false h
end Go.Proofs.YtdifmjcghaoilaaGreatDoor

namespace Go.Proofs.YtdifmjcghaoilaaGreatDoor
open Go.RowKit Go.PlainAid
set_option linter.unusedVariables false
set_option linter.unusedSimpArgs false

end Go.Proofs.YtdifmjcghaoilaaGreatDoor

namespace Go.Proofs.YtdifmjcghaoilaaGreatDoor
open Go.RowKit Go.PlainAid
set_option linter.unusedVariables false
set_option linter.unusedSimpArgs false

end Go.Proofs.YtdifmjcghaoilaaGreatDoor

namespace Go.Proofs.YtdifmjcghaoilaaGreatDoor
open Go.RowKit Go.PlainAid
set_option linter.unusedVariables false
set_option linter.unusedSimpArgs false

end Go.Proofs.YtdifmjcghaoilaaGreatDoor

namespace Go.Proofs.YtdifmjcghaoilaaGreatDoor
open Go.RowKit Go.PlainAid
set_option linter.unusedVariables false
set_option linter.unusedSimpArgs false

end Go.Proofs.YtdifmjcghaoilaaGreatDoor

namespace Go.Proofs.YtdifmjcghaoilaaGreatDoor
open Go.RowKit Go.PlainAid
set_option linter.unusedVariables false
set_option linter.unusedSimpArgs false

end Go.Proofs.YtdifmjcghaoilaaGreatDoor

namespace Go.Proofs.YtdifmjcghaoilaaGreatDoor.H
open Go.RowKit Go.PlainAid
set_option linter.unusedVariables false

theorem holdsI (l m n : Int) (b : Bool) (hb : decide (l ≤ n ∧ n ≤ m) = b) (w : World) : Calls Tryz.prog 95 #[.agg #[.int .i64 l, .int .i64 m], .int .i64 n] w fun e w' => e = .returned (.bool b) ∧ Below w.heap.size w w' := by
  go_enter Tryz.func95, Tryz.ntmps95
  by_cases h1 : l ≤ n
  · by_cases h2 : n ≤ m
    · go_wp2
      go_ret
      exact ⟨by rw [← hb, decide_eq_true ⟨h1, h2⟩]; rfl, (Below.refl _ _).alloc (Nat.le_refl _) _⟩
    · go_wp2
      go_ret
      exact ⟨by rw [← hb, decide_eq_false (fun h => by omega)]; rfl, (Below.refl _ _).alloc (Nat.le_refl _) _⟩
  · go_wp2
    go_ret
    exact ⟨by rw [← hb, decide_eq_false (fun h => by omega)]; rfl, (Below.refl _ _).alloc (Nat.le_refl _) _⟩

theorem inS (l m n : Int) (b : Bool) (hb : decide (l ≤ n ∧ n ≤ m) = b) (w : World) : Calls Tryz.prog 59 #[.int .i64 n, .int .i64 l, .int .i64 m] w fun e w' => e = .returned (.bool b) ∧ w' = w := by
  go_enter Tryz.func59, Tryz.ntmps59
  by_cases h1 : l ≤ n
  · by_cases h2 : n ≤ m
    · go_wp2
      go_ret
      exact ⟨by rw [← hb, decide_eq_true ⟨h1, h2⟩]; rfl, rfl⟩
    · go_wp2
      go_ret
      exact ⟨by rw [← hb, decide_eq_false (fun h => by omega)]; rfl, rfl⟩
  · go_wp2
    go_ret
    exact ⟨by rw [← hb, decide_eq_false (fun h => by omega)]; rfl, rfl⟩

theorem bel_on {w W W' : World} {B : Nat} (hB : B ≤ w.heap.size) (h : Below B w W) (hb : Below W.heap.size W W') : Below B w W' := h.trans (hb.mono (Nat.le_trans hB h.size))
theorem senseS (n : Int) (b : Bool) (hb : decide (0 ≤ n ∧ n ≤ 15) = b) (w : World) : Calls Tryz.prog 34 #[.int .i64 n] w fun e w' => e = .returned (.bool b) ∧ w' = w := by
  go_enter Tryz.func34, Tryz.ntmps34
  go_wp2_with fail
  refine (inS 0 15 n b hb _).mono ?_
  rintro e w1 ⟨rfl, rfl⟩
  go_wp2
  go_ret
  exact ⟨rfl, rfl⟩

theorem senseI (n : Int) (b : Bool) (hb : decide (0 ≤ n ∧ n ≤ 15) = b) (w : World) : Calls Tryz.prog 60 #[.int .i64 n] w fun e w' => e = .returned (.bool b) ∧ Below w.heap.size w w' := by
  go_enter Tryz.func60, Tryz.ntmps60
  go_wp2_with fail
  refine (holdsI 0 15 n b hb _).mono ?_
  rintro e w1 ⟨rfl, hb1⟩
  go_wp2
  go_ret
  exact ⟨rfl, hb1⟩

def bitB (a b : Int) : Bool := !(IntKind.u8.wrap ((BitVec.ofInt 8 a &&& BitVec.ofInt 8 b).toNat : Int) == 0)
def oneB (a : Int) : Bool := !(a == 0) && (IntKind.u8.wrap ((BitVec.ofInt 8 a &&& BitVec.ofInt 8 (IntKind.u8.wrap (a - 1))).toNat : Int) == 0)
def hasB (n o : Int) : Bool := decide (0 ≤ n ∧ n ≤ 15) && (decide (o = 1 ∨ o = 2 ∨ o = 4 ∨ o = 8) && decide (n / o % 2 = 1))
theorem has_fin : ∀ i j : Fin 16, hasB (i.val : Int) (j.val : Int) = (oneB (j.val : Int) && bitB (i.val : Int) (j.val : Int)) := by decide +kernel
theorem has_eq (n o : Int) (hn : 0 ≤ n ∧ n ≤ 15) (ho : 0 ≤ o ∧ o ≤ 15) : hasB n o = (oneB o && bitB n o) := by
  have h := has_fin ⟨n.toNat, by omega⟩ ⟨o.toNat, by omega⟩
  have e1 : ((n.toNat : Nat) : Int) = n := by omega
  have e2 : ((o.toNat : Nat) : Int) = o := by omega
  simp only [e1, e2] at h
  exact h
theorem has_no1 (n o : Int) (hn : ¬ (0 ≤ n ∧ n ≤ 15)) : hasB n o = false := by
  unfold hasB
  rw [decide_eq_false hn]; rfl
theorem has_no2 (n o : Int) (ho : ¬ (0 ≤ o ∧ o ≤ 15)) : hasB n o = false := by
  unfold hasB
  rw [decide_eq_false (p := o = 1 ∨ o = 2 ∨ o = 4 ∨ o = 8) (by omega)]; simp
end Go.Proofs.YtdifmjcghaoilaaGreatDoor.H
