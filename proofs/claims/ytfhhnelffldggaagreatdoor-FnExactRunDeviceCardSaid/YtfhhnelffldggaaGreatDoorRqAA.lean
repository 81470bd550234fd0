/-
  Plain helpers over this translation.
-/
import Derived.Test.YtfhhnelffldggaaGreatDoorChecked
import Derived.WalkKit
import Derived.ProofKit
import Derived.Handy
import Derived.LoopTactic
import Derived.Below
import Derived.Laws.IdiomStrings
import Derived.PlainAid
import Derived.Deep.RegionWith
import Derived.Deep.RegionHeld3
import Derived.Laws.DeepStrings4
import Derived.Deep.QuietTactic
import Derived.BigQuiet
import Derived.WalkSmall
import Derived.Deep.AppendLies
import Derived.Deep.RegionLaw
import Derived.Laws.BytesArg
import Derived.Deep.LoopGhost
import Derived.WalkMore
set_option maxRecDepth 100000
set_option maxHeartbeats 16000000
namespace Go.Proofs.YtfhhnelffldggaaGreatDoor
open Go.RowKit Go.PlainAid
set_option linter.unusedVariables false
theorem wrap_in {n : Int} (h0 : -9223372036854775808 ≤ n) (h1 : n ≤ 9223372036854775807) : IntKind.i64.wrap n = n := by
  rw [IntKind.wrap_i64]
  omega
theorem wrap64_in {n : Int} (h0 : -9223372036854775808 ≤ n) (h1 : n ≤ 9223372036854775807) : wrap64 n = n := by
  rw [← i64_is]
  exact wrap_in h0 h1
theorem sQ1 {α : Type _} {xs : List α} {i : Nat} {a : α} : xs.toArray.setIfInBounds i a = (xs.set i a).toArray := List.setIfInBounds_toArray ..
theorem sQ2 {α : Type _} {x a : α} {xs : List α} : (x :: xs).set 0 a = a :: xs := rfl
theorem sQ3 {α : Type _} {x a : α} {xs : List α} {i : Nat} : (x :: xs).set (i + 1) a = x :: xs.set i a := rfl
theorem sQ4 {α : Type _} {xs : List α} {i : Nat} (h : i < xs.toArray.size) : xs.toArray[i] = xs[i]'(by simpa using h) := List.getElem_toArray h
theorem sQ5 {α : Type _} {a : α} {l : List α} {h : 0 < (a :: l).length} : (a :: l)[0] = a := rfl
theorem sQ6 {α : Type _} {a : α} {l : List α} {i : Nat} {h : i + 1 < (a :: l).length} : (a :: l)[i + 1] = l[i]'(by simpa using h) := rfl
theorem tkQ {P : Program} {ops : Array Oper} {Q : Exit → Act → World → Prop} {md : Region.Mode} {S : World → Prop} (i : Nat) {oi : Oper} (v : Value) {fuel : Nat} {listed : Array Bool} {a : Act} {w : World} (hi : ops[i]? = some oi)
    (hk : (Region.noSelect ops && Region.free md ops listed i && (Region.ready md ops listed).contains i) = true)
    (hQ : ∀ c a w, Q (.panic c) (a.put oi.dst v) w → Q (.panic c) a w) (hw : Region.wanted oi (yielded ops a.tmps) = true) (hy : ∀ w, S w → (execOp a.eval oi).run P w = .ok (.value v) w) (hS : S w)
    (h : wpAnyH P md ops Q S fuel (listed.setIfInBounds i true) (a.put oi.dst v) w) : wpAnyH P md ops Q S (fuel + 1) listed a w := by
  simp only [Bool.and_eq_true] at hk
  exact wpAnyH_take hi hk.1.1 hk.1.2 hk.2 hQ (Or.inl ⟨hw, hy⟩) hS h
theorem bq {w W W' : World} (h : Hid (Below w.heap.size w W)) (hb : Below W.heap.size W W') : Hid (Below w.heap.size w W') := h.out.trans (hb.mono h.out.size)
abbrev oB (k n d v : Int) : Obj := .cells #[.int .i64 k, .int .i64 n, .int .i64 d, .int .i64 v] 82
set_option linter.unusedSimpArgs false
theorem inS (l m n : Int) (b : Bool) (hb : decide (l ≤ n ∧ n ≤ m) = b) (w : World) : Calls Tryz.prog 97 #[.int .i64 n, .int .i64 l, .int .i64 m] w fun e w' => e = .returned (.bool b) ∧ w' = w := by
  go_enter Tryz.func97, Tryz.ntmps97
  by_cases h1 : l ≤ n
  · by_cases h2 : n ≤ m
    · go_wp2
      go_ret
      exact ⟨by rw [← hb, decide_eq_true ⟨h1, h2⟩]; rfl, rfl⟩
    · go_wp2
      go_ret
      exact ⟨by rw [← hb, decide_eq_false (fun h => by omega)]; rfl, rfl⟩
  · go_wp2
    go_ret
    exact ⟨by rw [← hb, decide_eq_false (fun h => by omega)]; rfl, rfl⟩
theorem bel_on {w W W' : World} {B : Nat} (hB : B ≤ w.heap.size) (h : Below B w W) (hb : Below W.heap.size W W') : Below B w W' := h.trans (hb.mono (Nat.le_trans hB h.size))
theorem row_lt {w : World} {k : Nat} {o : Obj} (h : w.heap[k]? = some o) : k < w.heap.size := by
  rcases Nat.lt_or_ge k w.heap.size with h' | h'
  · exact h'
  · rw [Array.getElem?_eq_none h'] at h; cases h
theorem row_on {w w' : World} {k : Nat} {o : Obj} (h : w.heap[k]? = some o) (hb : Below w.heap.size w w') : w'.heap[k]? = some o := (hb.block k (row_lt h)).trans h
theorem heap_new (w : World) (o : Obj) : (w.alloc o).heap[w.heap.size]? = some o := by
  show (w.heap.push _)[w.heap.size]? = _
  simp
theorem box4_cells {w : World} {k : Nat} {t : TypeId} {x0 x1 x2 x3 : Value} (h : w.heap[k]? = some (.cells #[x0, x1, x2, x3] t)) :
    (w.cell? ⟨k, 0, none⟩ = some x0 ∧ w.cell? ⟨k, 1, none⟩ = some x1 ∧ w.cell? ⟨k, 2, none⟩ = some x2 ∧ w.cell? ⟨k, 3, none⟩ = some x3) ∧ w.frozen? ⟨k, 0, none⟩ = false ∧ w.frozen? ⟨k, 1, none⟩ = false ∧ w.frozen? ⟨k, 2, none⟩ = false ∧ w.frozen? ⟨k, 3, none⟩ = false := by
  refine ⟨⟨?_, ?_, ?_, ?_⟩, ?_, ?_, ?_, ?_⟩ <;> simp [World.cell?, World.frozen?, h]
def OrdR (k n d v : Int) : Prop := (k = 1 ∧ (1 ≤ d ∧ d ≤ 1000) ∧ (1 ≤ n ∧ n ≤ 1000) ∧ n ≤ 3 * d ∧ (1 ≤ v ∧ v ≤ 5000)) ∨ (k = 2 ∧ (1 ≤ v ∧ v ≤ 100) ∧ n = 0 ∧ d = 0) ∨ ((3 ≤ k ∧ k ≤ 6) ∧ n = 0 ∧ d = 0 ∧ v = 0)
def ordV (k n d v : Int) : Value := .agg #[.int .i64 k, .int .i64 n, .int .i64 d, .int .i64 v]
theorem ord_bool (k n d v : Int) : ∃ b : Bool, b = true ↔ OrdR k n d v := by
  by_cases h : OrdR k n d v
  · exact ⟨true, ⟨fun _ => h, fun _ => rfl⟩⟩
  · exact ⟨false, ⟨fun e => (by cases e), fun e => absurd e h⟩⟩
theorem ord_yes {k n d v : Int} {b : Bool} (hb : b = true ↔ OrdR k n d v) (h : OrdR k n d v) : b = true := hb.2 h
theorem ord_no {k n d v : Int} {b : Bool} (hb : b = true ↔ OrdR k n d v) (h : ¬ OrdR k n d v) : b = false := by
  cases b
  · rfl
  · exact absurd (hb.1 rfl) h
theorem OrdR.bd {k n d v : Int} (h : OrdR k n d v) : (1 ≤ k ∧ k ≤ 6) ∧ (0 ≤ n ∧ n ≤ 1000) ∧ (0 ≤ d ∧ d ≤ 1000) ∧ 0 ≤ v ∧ v ≤ 5000 := by
  unfold OrdR at h
  omega
theorem ordokS (k n d v : Int) (b : Bool) (hb : b = true ↔ OrdR k n d v) (w : World) : Calls Tryz.prog 106 #[ordV k n d v] w fun e w' => e = .returned (.bool b) ∧ Below w.heap.size w w' := by
  unfold ordV
  have HB : Hid (Below w.heap.size w (w.alloc (oB k n d v))) := (Below.refl _ _).alloc (Nat.le_refl _) _
  have HK : Hid ((w.alloc (oB k n d v)).heap[w.heap.size]? = some (oB k n d v)) := heap_new w _
  have k0 := box4_cells HK.out
  by_cases k1 : k = 1
  · subst k1
    by_cases hd : 1 ≤ d ∧ d ≤ 1000
    · have Dd := decide_eq_true hd
      by_cases hn : 1 ≤ n ∧ n ≤ 1000
      · have Dn := decide_eq_true hn
        have hw : IntKind.i64.wrap (3 * d) = 3 * d := by rw [IntKind.wrap_i64]; omega
        by_cases h3 : n ≤ 3 * d
        · by_cases hv : 1 ≤ v ∧ v ≤ 5000
          · have Dv := decide_eq_true hv
            obtain rfl : b = true := (ord_yes hb (by unfold OrdR; omega))
            clear hb hv hd hn
            go_enter Tryz.func106, Tryz.ntmps106
            go_wp2_with fail
            refine (inS 1 1000 d true Dd _).mono ?_
            rintro e w1 ⟨rfl, rfl⟩
            go_wp2_with fail
            refine (inS 1 1000 n true Dn _).mono ?_
            rintro e w1 ⟨rfl, rfl⟩
            go_wp2_with fail
            refine (inS 1 5000 v true Dv _).mono ?_
            rintro e w1 ⟨rfl, rfl⟩
            go_wp2
            go_ret
            exact ⟨rfl, HB.out⟩
          · have Dv := decide_eq_false hv
            obtain rfl : b = false := (ord_no hb (fun h => by unfold OrdR at h; omega))
            clear hb hv hd hn
            go_enter Tryz.func106, Tryz.ntmps106
            go_wp2_with fail
            refine (inS 1 1000 d true Dd _).mono ?_
            rintro e w1 ⟨rfl, rfl⟩
            go_wp2_with fail
            refine (inS 1 1000 n true Dn _).mono ?_
            rintro e w1 ⟨rfl, rfl⟩
            go_wp2_with fail
            refine (inS 1 5000 v false Dv _).mono ?_
            rintro e w1 ⟨rfl, rfl⟩
            go_wp2
            go_ret
            exact ⟨rfl, HB.out⟩
        · obtain rfl : b = false := (ord_no hb (fun h => by unfold OrdR at h; omega))
          clear hb hd hn
          go_enter Tryz.func106, Tryz.ntmps106
          go_wp2_with fail
          refine (inS 1 1000 d true Dd _).mono ?_
          rintro e w1 ⟨rfl, rfl⟩
          go_wp2_with fail
          refine (inS 1 1000 n true Dn _).mono ?_
          rintro e w1 ⟨rfl, rfl⟩
          go_wp2
          go_ret
          exact ⟨rfl, HB.out⟩
      · have Dn := decide_eq_false hn
        obtain rfl : b = false := (ord_no hb (fun h => by unfold OrdR at h; omega))
        clear hb hd hn
        go_enter Tryz.func106, Tryz.ntmps106
        go_wp2_with fail
        refine (inS 1 1000 d true Dd _).mono ?_
        rintro e w1 ⟨rfl, rfl⟩
        go_wp2_with fail
        refine (inS 1 1000 n false Dn _).mono ?_
        rintro e w1 ⟨rfl, rfl⟩
        go_wp2
        go_ret
        exact ⟨rfl, HB.out⟩
    · have Dd := decide_eq_false hd
      obtain rfl : b = false := (ord_no hb (fun h => by unfold OrdR at h; omega))
      clear hb hd
      go_enter Tryz.func106, Tryz.ntmps106
      go_wp2_with fail
      refine (inS 1 1000 d false Dd _).mono ?_
      rintro e w1 ⟨rfl, rfl⟩
      go_wp2
      go_ret
      exact ⟨rfl, HB.out⟩
  by_cases k2 : k = 2
  · subst k2
    obtain ⟨x, hx⟩ : ∃ x, decide (1 ≤ v ∧ v ≤ 100) = x := ⟨_, rfl⟩
    have HE : Hid (b = (x && (n == 0 && d == 0))) := by
      show b = _
      rw [← hx]
      by_cases h : OrdR 2 n d v
      · rw [ord_yes hb h]
        unfold OrdR at h
        rw [decide_eq_true (by omega), show n = 0 by omega, show d = 0 by omega]; rfl
      · rw [ord_no hb h]
        unfold OrdR at h
        by_cases e1 : 1 ≤ v ∧ v ≤ 100
        · by_cases e2 : n = 0
          · have e3 : (d == 0) = false := by simp; omega
            rw [e3]; simp
          · have e3 : (n == 0) = false := by simpa using e2
            rw [e3]; simp
        · rw [decide_eq_false e1]; rfl
    clear hb
    go_enter Tryz.func106, Tryz.ntmps106
    go_wp2_with fail
    refine (inS 1 100 v x hx _).mono ?_
    rintro e w1 ⟨rfl, rfl⟩
    clear hx
    cases x
    · go_wp2
      go_ret
      exact ⟨by rw [HE.out]; rfl, HB.out⟩
    · by_cases e2 : n = 0
      · subst e2
        go_wp2
        go_ret
        exact ⟨by rw [HE.out]; simp, HB.out⟩
      · have e3 : (n == 0) = false := by simpa using e2
        rw [e3] at HE
        clear e2
        go_wp2
        go_ret
        exact ⟨by rw [HE.out]; rfl, HB.out⟩
  · have q1 : (k == 1) = false := by simpa using k1
    have q2 : (k == 2) = false := by simpa using k2
    obtain ⟨x, hx⟩ : ∃ x, decide (3 ≤ k ∧ k ≤ 6) = x := ⟨_, rfl⟩
    have HE : Hid (b = (x && (n == 0 && (d == 0 && v == 0)))) := by
      show b = _
      rw [← hx]
      by_cases h : OrdR k n d v
      · rw [ord_yes hb h]
        unfold OrdR at h
        rw [decide_eq_true (by omega), show n = 0 by omega, show d = 0 by omega, show v = 0 by omega]; rfl
      · rw [ord_no hb h]
        unfold OrdR at h
        by_cases e1 : 3 ≤ k ∧ k ≤ 6
        · by_cases e2 : n = 0
          · by_cases e4 : d = 0
            · have e3 : (v == 0) = false := by simp; omega
              rw [e3]; simp
            · have e3 : (d == 0) = false := by simpa using e4
              rw [e3]; simp
          · have e3 : (n == 0) = false := by simpa using e2
            rw [e3]; simp
        · rw [decide_eq_false e1]; rfl
    clear hb k1 k2
    go_enter Tryz.func106, Tryz.ntmps106
    go_wp2_with fail
    refine (inS 3 6 k x hx _).mono ?_
    rintro e w1 ⟨rfl, rfl⟩
    clear hx
    cases x
    · go_wp2
      go_ret
      exact ⟨by rw [HE.out]; rfl, HB.out⟩
    · by_cases e2 : n = 0
      · subst e2
        by_cases e4 : d = 0
        · subst e4
          go_wp2
          go_ret
          exact ⟨by rw [HE.out]; simp, HB.out⟩
        · have e3 : (d == 0) = false := by simpa using e4
          rw [e3] at HE
          clear e4
          go_wp2
          go_ret
          exact ⟨by rw [HE.out]; simp, HB.out⟩
      · have e3 : (n == 0) = false := by simpa using e2
        rw [e3] at HE
        clear e2
        go_wp2
        go_ret
        exact ⟨by rw [HE.out]; rfl, HB.out⟩
theorem holdsI (l m n : Int) (b : Bool) (hb : decide (l ≤ n ∧ n ≤ m) = b) (w : World) : Calls Tryz.prog 111 #[.agg #[.int .i64 l, .int .i64 m], .int .i64 n] w fun e w' => e = .returned (.bool b) ∧ Below w.heap.size w w' := by
  go_enter Tryz.func111, Tryz.ntmps111
  by_cases h1 : l ≤ n
  · by_cases h2 : n ≤ m
    · go_wp2
      go_ret
      exact ⟨by rw [← hb, decide_eq_true ⟨h1, h2⟩]; rfl, (Below.refl _ _).alloc (Nat.le_refl _) _⟩
    · go_wp2
      go_ret
      exact ⟨by rw [← hb, decide_eq_false (fun h => by omega)]; rfl, (Below.refl _ _).alloc (Nat.le_refl _) _⟩
  · go_wp2
    go_ret
    exact ⟨by rw [← hb, decide_eq_false (fun h => by omega)]; rfl, (Below.refl _ _).alloc (Nat.le_refl _) _⟩
def BasR (n d v : Int) : Prop := (1 ≤ d ∧ d ≤ 1000) ∧ (1 ≤ n ∧ n ≤ 1000) ∧ n ≤ 3 * d ∧ (1 ≤ v ∧ v ≤ 5000)
theorem bas_no {n d v : Int} {b : Bool} (hb : b = true ↔ BasR n d v) (h : ¬ BasR n d v) : b = false := by
  cases b
  · rfl
  · exact absurd (hb.1 rfl) h
theorem basalI (k n d v : Int) (b : Bool) (hb : b = true ↔ BasR n d v) (w : World) : Calls Tryz.prog 184 #[ordV k n d v] w fun e w' => e = .returned (.bool b) ∧ Below w.heap.size w w' := by
  unfold ordV
  have HB0 : Hid (Below w.heap.size w (w.alloc (oB k n d v))) := (Below.refl _ _).alloc (Nat.le_refl _) _
  have HK0 : Hid ((w.alloc (oB k n d v)).heap[w.heap.size]? = some (oB k n d v)) := heap_new w _
  have k0 := box4_cells HK0.out
  by_cases hd : 1 ≤ d ∧ d ≤ 1000
  · have Dd := decide_eq_true hd
    by_cases hn : 1 ≤ n ∧ n ≤ 1000
    · have Dn := decide_eq_true hn
      have hw : IntKind.i64.wrap (d * 3) = d * 3 := by rw [IntKind.wrap_i64]; omega
      by_cases h3 : n ≤ d * 3
      · by_cases hv : 1 ≤ v ∧ v ≤ 5000
        · have Dv := decide_eq_true hv
          obtain rfl : b = true := hb.2 (by unfold BasR; omega)
          clear hb hv hd hn
          go_enter Tryz.func184, Tryz.ntmps184
          go_wp2_with fail
          refine (holdsI 1 1000 d true Dd _).mono ?_
          rintro e w1 ⟨rfl, hb1⟩
          have HB1 := bq HB0 hb1
          have HK1 : Hid (w1.heap[w.heap.size]? = some (oB k n d v)) := row_on HK0.out hb1
          have k1 := box4_cells HK1.out
          clear hb1 HB0 HK0 k0
          go_wp2_with fail
          refine (holdsI 1 1000 n true Dn _).mono ?_
          rintro e w2 ⟨rfl, hb2⟩
          have HB2 := bq HB1 hb2
          have HK2 : Hid (w2.heap[w.heap.size]? = some (oB k n d v)) := row_on HK1.out hb2
          have k2 := box4_cells HK2.out
          clear hb2 HB1 HK1 k1
          go_wp2_with fail
          refine (holdsI 1 5000 v true Dv _).mono ?_
          rintro e w3 ⟨rfl, hb3⟩
          have HB3 := bq HB2 hb3
          have HK3 : Hid (w3.heap[w.heap.size]? = some (oB k n d v)) := row_on HK2.out hb3
          have k3 := box4_cells HK3.out
          clear hb3 HB2 HK2 k2
          go_wp2
          go_ret
          exact ⟨rfl, HB3.out⟩
        · have Dv := decide_eq_false hv
          obtain rfl : b = false := bas_no hb (fun h => by unfold BasR at h; omega)
          clear hb hv hd hn
          go_enter Tryz.func184, Tryz.ntmps184
          go_wp2_with fail
          refine (holdsI 1 1000 d true Dd _).mono ?_
          rintro e w1 ⟨rfl, hb1⟩
          have HB1 := bq HB0 hb1
          have HK1 : Hid (w1.heap[w.heap.size]? = some (oB k n d v)) := row_on HK0.out hb1
          have k1 := box4_cells HK1.out
          clear hb1 HB0 HK0 k0
          go_wp2_with fail
          refine (holdsI 1 1000 n true Dn _).mono ?_
          rintro e w2 ⟨rfl, hb2⟩
          have HB2 := bq HB1 hb2
          have HK2 : Hid (w2.heap[w.heap.size]? = some (oB k n d v)) := row_on HK1.out hb2
          have k2 := box4_cells HK2.out
          clear hb2 HB1 HK1 k1
          go_wp2_with fail
          refine (holdsI 1 5000 v false Dv _).mono ?_
          rintro e w3 ⟨rfl, hb3⟩
          have HB3 := bq HB2 hb3
          have HK3 : Hid (w3.heap[w.heap.size]? = some (oB k n d v)) := row_on HK2.out hb3
          have k3 := box4_cells HK3.out
          clear hb3 HB2 HK2 k2
          go_wp2
          go_ret
          exact ⟨rfl, HB3.out⟩
      · have _t := trivial
        obtain rfl : b = false := bas_no hb (fun h => by unfold BasR at h; omega)
        clear hb hd hn
        go_enter Tryz.func184, Tryz.ntmps184
        go_wp2_with fail
        refine (holdsI 1 1000 d true Dd _).mono ?_
        rintro e w1 ⟨rfl, hb1⟩
        have HB1 := bq HB0 hb1
        have HK1 : Hid (w1.heap[w.heap.size]? = some (oB k n d v)) := row_on HK0.out hb1
        have k1 := box4_cells HK1.out
        clear hb1 HB0 HK0 k0
        go_wp2_with fail
        refine (holdsI 1 1000 n true Dn _).mono ?_
        rintro e w2 ⟨rfl, hb2⟩
        have HB2 := bq HB1 hb2
        have HK2 : Hid (w2.heap[w.heap.size]? = some (oB k n d v)) := row_on HK1.out hb2
        have k2 := box4_cells HK2.out
        clear hb2 HB1 HK1 k1
        go_wp2
        go_ret
        exact ⟨rfl, HB2.out⟩
    · have Dn := decide_eq_false hn
      obtain rfl : b = false := bas_no hb (fun h => by unfold BasR at h; omega)
      clear hb hd hn
      go_enter Tryz.func184, Tryz.ntmps184
      go_wp2_with fail
      refine (holdsI 1 1000 d true Dd _).mono ?_
      rintro e w1 ⟨rfl, hb1⟩
      have HB1 := bq HB0 hb1
      have HK1 : Hid (w1.heap[w.heap.size]? = some (oB k n d v)) := row_on HK0.out hb1
      have k1 := box4_cells HK1.out
      clear hb1 HB0 HK0 k0
      go_wp2_with fail
      refine (holdsI 1 1000 n false Dn _).mono ?_
      rintro e w2 ⟨rfl, hb2⟩
      have HB2 := bq HB1 hb2
      have HK2 : Hid (w2.heap[w.heap.size]? = some (oB k n d v)) := row_on HK1.out hb2
      have k2 := box4_cells HK2.out
      clear hb2 HB1 HK1 k1
      go_wp2
      go_ret
      exact ⟨rfl, HB2.out⟩
  · have Dd := decide_eq_false hd
    obtain rfl : b = false := bas_no hb (fun h => by unfold BasR at h; omega)
    clear hb hd
    go_enter Tryz.func184, Tryz.ntmps184
    go_wp2_with fail
    refine (holdsI 1 1000 d false Dd _).mono ?_
    rintro e w1 ⟨rfl, hb1⟩
    have HB1 := bq HB0 hb1
    have HK1 : Hid (w1.heap[w.heap.size]? = some (oB k n d v)) := row_on HK0.out hb1
    have k1 := box4_cells HK1.out
    clear hb1 HB0 HK0 k0
    go_wp2
    go_ret
    exact ⟨rfl, HB1.out⟩
theorem ordokI (k n d v : Int) (b : Bool) (hb : b = true ↔ OrdR k n d v) (w : World) : Calls Tryz.prog 169 #[ordV k n d v] w fun e w' => e = .returned (.bool b) ∧ Below w.heap.size w w' := by
  unfold ordV
  have HB0 : Hid (Below w.heap.size w (w.alloc (oB k n d v))) := (Below.refl _ _).alloc (Nat.le_refl _) _
  have HK0 : Hid ((w.alloc (oB k n d v)).heap[w.heap.size]? = some (oB k n d v)) := heap_new w _
  have k0 := box4_cells HK0.out
  by_cases k1 : k = 1
  · subst k1
    have Hb : Hid (b = true ↔ BasR n d v) := by
      show b = true ↔ BasR n d v
      rw [hb]
      unfold OrdR BasR
      omega
    clear hb
    go_enter Tryz.func169, Tryz.ntmps169
    go_wp2_with fail
    refine (basalI 1 n d v b Hb.out _).mono ?_
    rintro e w1 ⟨rfl, hb1⟩
    have HB1 := bq HB0 hb1
    have HK1 : Hid (w1.heap[w.heap.size]? = some (oB 1 n d v)) := row_on HK0.out hb1
    have k1 := box4_cells HK1.out
    clear hb1 HB0 HK0 k0
    go_wp2
    go_ret
    exact ⟨rfl, HB1.out⟩
  by_cases k2 : k = 2
  · subst k2
    by_cases hv : 1 ≤ v ∧ v ≤ 100
    · have Dv := decide_eq_true hv
      by_cases hn : n = 0
      · by_cases hd : d = 0
        · have _t := trivial
          obtain rfl : b = true := ord_yes hb (by unfold OrdR; omega)
          clear hb hv
          subst hn
          subst hd
          go_enter Tryz.func169, Tryz.ntmps169
          go_wp2_with fail
          refine (holdsI 1 100 v true Dv _).mono ?_
          rintro e w1 ⟨rfl, hb1⟩
          have HB1 := bq HB0 hb1
          have HK1 : Hid (w1.heap[w.heap.size]? = some (oB 2 0 0 v)) := row_on HK0.out hb1
          have k1 := box4_cells HK1.out
          clear hb1 HB0 HK0 k0
          go_wp2
          go_ret
          exact ⟨rfl, HB1.out⟩
        · have _t := trivial
          obtain rfl : b = false := ord_no hb (fun h => by unfold OrdR at h; omega)
          clear hb hv
          subst hn
          go_enter Tryz.func169, Tryz.ntmps169
          go_wp2_with fail
          refine (holdsI 1 100 v true Dv _).mono ?_
          rintro e w1 ⟨rfl, hb1⟩
          have HB1 := bq HB0 hb1
          have HK1 : Hid (w1.heap[w.heap.size]? = some (oB 2 0 d v)) := row_on HK0.out hb1
          have k1 := box4_cells HK1.out
          clear hb1 HB0 HK0 k0
          go_wp2
          go_ret
          exact ⟨rfl, HB1.out⟩
      · have _t := trivial
        obtain rfl : b = false := ord_no hb (fun h => by unfold OrdR at h; omega)
        clear hb hv
        go_enter Tryz.func169, Tryz.ntmps169
        go_wp2_with fail
        refine (holdsI 1 100 v true Dv _).mono ?_
        rintro e w1 ⟨rfl, hb1⟩
        have HB1 := bq HB0 hb1
        have HK1 : Hid (w1.heap[w.heap.size]? = some (oB 2 n d v)) := row_on HK0.out hb1
        have k1 := box4_cells HK1.out
        clear hb1 HB0 HK0 k0
        go_wp2
        go_ret
        exact ⟨rfl, HB1.out⟩
    · have Dv := decide_eq_false hv
      obtain rfl : b = false := ord_no hb (fun h => by unfold OrdR at h; omega)
      clear hb hv
      go_enter Tryz.func169, Tryz.ntmps169
      go_wp2_with fail
      refine (holdsI 1 100 v false Dv _).mono ?_
      rintro e w1 ⟨rfl, hb1⟩
      have HB1 := bq HB0 hb1
      have HK1 : Hid (w1.heap[w.heap.size]? = some (oB 2 n d v)) := row_on HK0.out hb1
      have k1 := box4_cells HK1.out
      clear hb1 HB0 HK0 k0
      go_wp2
      go_ret
      exact ⟨rfl, HB1.out⟩
  by_cases k3 : 3 ≤ k ∧ k ≤ 6
  · have q1 : (k == 1) = false := by simpa using k1
    have q2 : (k == 2) = false := by simpa using k2
    have ways : k = 3 ∨ k = 4 ∨ k = 5 ∨ k = 6 := by omega
    by_cases hn : n = 0
    · by_cases hd : d = 0
      · by_cases hv : v = 0
        · have _t := trivial
          obtain rfl : b = true := ord_yes hb (by unfold OrdR; omega)
          clear hb
          subst hn
          subst hd
          subst hv
          rcases ways with rfl | rfl | rfl | rfl <;>
          · clear q1 q2
            go_enter Tryz.func169, Tryz.ntmps169
            go_wp2
            go_ret
            exact ⟨rfl, HB0.out⟩
        · have _t := trivial
          obtain rfl : b = false := ord_no hb (fun h => by unfold OrdR at h; omega)
          clear hb
          subst hn
          subst hd
          rcases ways with rfl | rfl | rfl | rfl <;>
          · clear q1 q2
            go_enter Tryz.func169, Tryz.ntmps169
            go_wp2
            go_ret
            exact ⟨rfl, HB0.out⟩
      · have _t := trivial
        obtain rfl : b = false := ord_no hb (fun h => by unfold OrdR at h; omega)
        clear hb
        subst hn
        rcases ways with rfl | rfl | rfl | rfl <;>
        · clear q1 q2
          go_enter Tryz.func169, Tryz.ntmps169
          go_wp2
          go_ret
          exact ⟨rfl, HB0.out⟩
    · have _t := trivial
      obtain rfl : b = false := ord_no hb (fun h => by unfold OrdR at h; omega)
      clear hb
      rcases ways with rfl | rfl | rfl | rfl <;>
      · clear q1 q2
        go_enter Tryz.func169, Tryz.ntmps169
        go_wp2
        go_ret
        exact ⟨rfl, HB0.out⟩
  · obtain rfl : b = false := ord_no hb (fun h => by unfold OrdR at h; omega)
    have q1 : (k == 1) = false := by simpa using k1
    have q2 : (k == 2) = false := by simpa using k2
    have q3 : (k == 3) = false := by simp; omega
    have q4 : (k == 4) = false := by simp; omega
    have q5 : (k == 5) = false := by simp; omega
    have q6 : (k == 6) = false := by simp; omega
    clear hb k1 k2 k3
    go_enter Tryz.func169, Tryz.ntmps169
    go_wp2
    go_ret
    exact ⟨rfl, HB0.out⟩
end Go.Proofs.YtfhhnelffldggaaGreatDoor
namespace Go.Proofs.YtfhhnelffldggaaGreatDoor
open Go.RowKit Go.PlainAid
set_option linter.unusedVariables false
def rateV (n d r : Int) : Value := .agg #[.int .i64 n, .int .i64 d, .int .i64 r]
def rateOk (n d r : Int) : Bool := decide ((0 ≤ n ∧ n ≤ 1000000 ∧ 1 ≤ d ∧ d ≤ 1000000 ∧ 0 ≤ r ∧ r ≤ d - 1))
theorem rat_on {w W' : World} {k : Nat} {t : TypeId} {x y z : Value} (h : w.heap[k]? = some (.cells #[x, y, z] t)) (hb : Below w.heap.size w W') :
    W'.heap[k]? = some (.cells #[x, y, z] t) := by
  have hlt : k < w.heap.size := by
    rcases Nat.lt_or_ge k w.heap.size with h' | h'
    · exact h'
    · rw [Array.getElem?_eq_none h'] at h; cases h
  rw [hb.block k hlt]
  exact h
theorem rat_cells {w : World} {k : Nat} {t : TypeId} {x y z : Value} (h : w.heap[k]? = some (.cells #[x, y, z] t)) :
    w.cell? ⟨k, 0, none⟩ = some x ∧ w.cell? ⟨k, 1, none⟩ = some y ∧ w.cell? ⟨k, 2, none⟩ = some z ∧ w.frozen? ⟨k, 0, none⟩ = false ∧ w.frozen? ⟨k, 1, none⟩ = false ∧ w.frozen? ⟨k, 2, none⟩ = false := by
  refine ⟨?_, ?_, ?_, ?_, ?_, ?_⟩ <;> simp [World.cell?, World.frozen?, h]
theorem rateS (n d r : Int) (w : World) : Calls Tryz.prog 150 #[rateV n d r] w fun e w' => e = .returned (.bool (rateOk n d r)) ∧ Below w.heap.size w w' := by
  unfold rateV
  have hb0 : Below w.heap.size w (w.alloc (.cells #[.int .i64 n, .int .i64 d, .int .i64 r] 27)) := (Below.refl _ _).alloc (Nat.le_refl _) _
  go_enter Tryz.func150, Tryz.ntmps150
  by_cases h1 : 0 ≤ n ∧ n ≤ 1000000
  · by_cases h2 : 1 ≤ d ∧ d ≤ 1000000
    · by_cases h3 : 0 ≤ r ∧ r ≤ d - 1
      · go_wp2_with fail
        refine (inS 0 1000000 n true (decide_eq_true h1) _).mono ?_
        rintro e w1 ⟨rfl, rfl⟩
        go_wp2_with fail
        refine (inS 1 1000000 d true (decide_eq_true h2) _).mono ?_
        rintro e w1 ⟨rfl, rfl⟩
        go_wp2_with fail
        refine (inS 0 (d - 1) r true (decide_eq_true h3) _).mono ?_
        rintro e w1 ⟨rfl, rfl⟩
        go_wp2
        go_ret
        exact ⟨by rw [show rateOk n d r = true from decide_eq_true (by omega)]; rfl, hb0⟩
      · go_wp2_with fail
        refine (inS 0 1000000 n true (decide_eq_true h1) _).mono ?_
        rintro e w1 ⟨rfl, rfl⟩
        go_wp2_with fail
        refine (inS 1 1000000 d true (decide_eq_true h2) _).mono ?_
        rintro e w1 ⟨rfl, rfl⟩
        go_wp2_with fail
        refine (inS 0 (d - 1) r false (decide_eq_false h3) _).mono ?_
        rintro e w1 ⟨rfl, rfl⟩
        go_wp2
        go_ret
        exact ⟨by rw [show rateOk n d r = false from decide_eq_false (by omega)]; rfl, hb0⟩
    · go_wp2_with fail
      refine (inS 0 1000000 n true (decide_eq_true h1) _).mono ?_
      rintro e w1 ⟨rfl, rfl⟩
      go_wp2_with fail
      refine (inS 1 1000000 d false (decide_eq_false h2) _).mono ?_
      rintro e w1 ⟨rfl, rfl⟩
      go_wp2
      go_ret
      exact ⟨by rw [show rateOk n d r = false from decide_eq_false (by omega)]; rfl, hb0⟩
  · go_wp2_with fail
    refine (inS 0 1000000 n false (decide_eq_false h1) _).mono ?_
    rintro e w1 ⟨rfl, rfl⟩
    go_wp2
    go_ret
    exact ⟨by rw [show rateOk n d r = false from decide_eq_false (by omega)]; rfl, hb0⟩
theorem rateI (n d r : Int) (w : World) : Calls Tryz.prog 112 #[rateV n d r] w fun e w' => e = .returned (.bool (rateOk n d r)) ∧ Below w.heap.size w w' := by
  unfold rateV
  have hb0 : Below w.heap.size w (w.alloc (.cells #[.int .i64 n, .int .i64 d, .int .i64 r] 27)) := (Below.refl _ _).alloc (Nat.le_refl _) _
  have hh : (w.alloc (.cells #[.int .i64 n, .int .i64 d, .int .i64 r] 27)).heap[w.heap.size]? = some (.cells #[.int .i64 n, .int .i64 d, .int .i64 r] 27) := heap_new _ _
  go_enter Tryz.func112, Tryz.ntmps112
  by_cases h1 : 0 ≤ n ∧ n ≤ 1000000
  · by_cases h2 : 1 ≤ d ∧ d ≤ 1000000
    · by_cases h3 : 0 ≤ r ∧ r ≤ d - 1
      · go_wp2_with fail
        refine (holdsI 0 1000000 n true (decide_eq_true h1) _).mono ?_
        rintro e w1 ⟨rfl, hb1⟩
        have hh1 := rat_on hh hb1
        have c11 := rat_cells hh1
        have bel1 := hb0.trans (hb1.mono hb0.size)
        go_wp2_with fail
        refine (holdsI 1 1000000 d true (decide_eq_true h2) _).mono ?_
        rintro e w2 ⟨rfl, hb2⟩
        have hh2 := rat_on hh1 hb2
        have c21 := rat_cells hh2
        have bel2 := bel1.trans (hb2.mono bel1.size)
        go_wp2_with fail
        refine (holdsI 0 (d - 1) r true (decide_eq_true h3) _).mono ?_
        rintro e w3 ⟨rfl, hb3⟩
        have hh3 := rat_on hh2 hb3
        have c31 := rat_cells hh3
        have bel3 := bel2.trans (hb3.mono bel2.size)
        go_wp2
        go_ret
        exact ⟨by rw [show rateOk n d r = true from decide_eq_true (by omega)]; rfl, bel3⟩
      · go_wp2_with fail
        refine (holdsI 0 1000000 n true (decide_eq_true h1) _).mono ?_
        rintro e w1 ⟨rfl, hb1⟩
        have hh1 := rat_on hh hb1
        have c11 := rat_cells hh1
        have bel1 := hb0.trans (hb1.mono hb0.size)
        go_wp2_with fail
        refine (holdsI 1 1000000 d true (decide_eq_true h2) _).mono ?_
        rintro e w2 ⟨rfl, hb2⟩
        have hh2 := rat_on hh1 hb2
        have c21 := rat_cells hh2
        have bel2 := bel1.trans (hb2.mono bel1.size)
        go_wp2_with fail
        refine (holdsI 0 (d - 1) r false (decide_eq_false h3) _).mono ?_
        rintro e w3 ⟨rfl, hb3⟩
        have hh3 := rat_on hh2 hb3
        have c31 := rat_cells hh3
        have bel3 := bel2.trans (hb3.mono bel2.size)
        go_wp2
        go_ret
        exact ⟨by rw [show rateOk n d r = false from decide_eq_false (by omega)]; rfl, bel3⟩
    · go_wp2_with fail
      refine (holdsI 0 1000000 n true (decide_eq_true h1) _).mono ?_
      rintro e w1 ⟨rfl, hb1⟩
      have hh1 := rat_on hh hb1
      have c11 := rat_cells hh1
      have bel1 := hb0.trans (hb1.mono hb0.size)
      go_wp2_with fail
      refine (holdsI 1 1000000 d false (decide_eq_false h2) _).mono ?_
      rintro e w2 ⟨rfl, hb2⟩
      have hh2 := rat_on hh1 hb2
      have c21 := rat_cells hh2
      have bel2 := bel1.trans (hb2.mono bel1.size)
      go_wp2
      go_ret
      exact ⟨by rw [show rateOk n d r = false from decide_eq_false (by omega)]; rfl, bel2⟩
  · go_wp2_with fail
    refine (holdsI 0 1000000 n false (decide_eq_false h1) _).mono ?_
    rintro e w1 ⟨rfl, hb1⟩
    have hh1 := rat_on hh hb1
    have c11 := rat_cells hh1
    have bel1 := hb0.trans (hb1.mono hb0.size)
    go_wp2
    go_ret
    exact ⟨by rw [show rateOk n d r = false from decide_eq_false (by omega)]; rfl, bel1⟩
def stepR (n d r : Int) : Int := if (0 ≤ n ∧ n ≤ 1000000 ∧ 1 ≤ d ∧ d ≤ 1000000 ∧ 0 ≤ r ∧ r ≤ d - 1) then (r + n) % d else r
def stepO (n d r : Int) : Int := if (0 ≤ n ∧ n ≤ 1000000 ∧ 1 ≤ d ∧ d ≤ 1000000 ∧ 0 ≤ r ∧ r ≤ d - 1) then (r + n) / d else 0
theorem two_rows {w w1 : World} {a b c x y z : Value} (hb1 : Below ((w.alloc (.cells #[a, b, c] 27)).alloc (.cells #[x, y, z] 27)).heap.size ((w.alloc (.cells #[a, b, c] 27)).alloc (.cells #[x, y, z] 27)) w1) :
    w1.heap[w.heap.size]? = some (.cells #[a, b, c] 27) ∧ w1.heap[w.heap.size + 1]? = some (.cells #[x, y, z] 27) ∧ Below w.heap.size w w1 := by
  have hb0 : Below w.heap.size w ((w.alloc (.cells #[a, b, c] 27)).alloc (.cells #[x, y, z] 27)) := ((Below.refl _ _).alloc (Nat.le_refl _) _).alloc (by simp) _
  refine ⟨rat_on ?_ hb1, rat_on ?_ hb1, hb0.trans (hb1.mono hb0.size)⟩
  · rw [Below.heap_alloc _ _ _ (by simp)]
    exact heap_new _ _
  · have := heap_new (w.alloc (.cells #[a, b, c] 27)) (.cells #[x, y, z] 27)
    simpa using this
theorem stepRS (n d r : Int) (w : World) : Calls Tryz.prog 110 #[rateV n d r] w fun e w' => e = .returned (.tuple #[rateV n d (stepR n d r), .int .i64 (stepO n d r)]) ∧ Below w.heap.size w w' := by
  have hs := rateS n d r
  by_cases hR : (0 ≤ n ∧ n ≤ 1000000 ∧ 1 ≤ d ∧ d ≤ 1000000 ∧ 0 ≤ r ∧ r ≤ d - 1)
  · rw [show stepR n d r = (r + n) % d from if_pos hR, show stepO n d r = (r + n) / d from if_pos hR]
    rw [show rateOk n d r = true from decide_eq_true hR] at hs
    obtain ⟨a1, a2, a3, a4, a5, a6⟩ := hR
    have dz : ¬ d = 0 := by omega
    unfold rateV at hs ⊢
    go_enter Tryz.func110, Tryz.ntmps110
    go_wp2_with fail
    refine (hs _).mono ?_
    rintro e w1 ⟨rfl, hb1⟩
    obtain ⟨g1, g2, bel⟩ := two_rows hb1
    have k1 := rat_cells g1
    have k2 := rat_cells g2
    clear hs hb1
    go_wp2
    refine bodyPost_ret (v := .tuple #[.agg #[.int .i64 n, .int .i64 d, .int .i64 ((r + n) % d)], .int .i64 ((r + n) / d)]) (by simp [results, Tryz.results110, go_sem, k2]) rfl ⟨rfl, ?_⟩
    exact (((bel.setCell (by simp) _).setCell (by simp) _).setCell (by simp) _).setCell (by simp) _
  · rw [show stepR n d r = r from if_neg hR, show stepO n d r = 0 from if_neg hR]
    rw [show rateOk n d r = false from decide_eq_false hR] at hs
    unfold rateV at hs ⊢
    go_enter Tryz.func110, Tryz.ntmps110
    go_wp2_with fail
    refine (hs _).mono ?_
    rintro e w1 ⟨rfl, hb1⟩
    obtain ⟨g1, g2, bel⟩ := two_rows hb1
    have k1 := rat_cells g1
    have k2 := rat_cells g2
    clear hs hb1
    go_wp2
    refine bodyPost_ret (v := .tuple #[.agg #[.int .i64 n, .int .i64 d, .int .i64 r], .int .i64 0]) (by simp [results, Tryz.results110, go_sem, k2]) rfl ⟨rfl, ?_⟩
    exact ((bel.setCell (by simp) _).setCell (by simp) _).setCell (by simp) _
theorem stepRI (n d r : Int) (w : World) : Calls Tryz.prog 185 #[rateV n d r] w fun e w' => e = .returned (.tuple #[rateV n d (stepR n d r), .int .i64 (stepO n d r)]) ∧ Below w.heap.size w w' := by
  have hs := rateI n d r
  by_cases hR : (0 ≤ n ∧ n ≤ 1000000 ∧ 1 ≤ d ∧ d ≤ 1000000 ∧ 0 ≤ r ∧ r ≤ d - 1)
  · rw [show stepR n d r = (r + n) % d from if_pos hR, show stepO n d r = (r + n) / d from if_pos hR]
    rw [show rateOk n d r = true from decide_eq_true hR] at hs
    obtain ⟨a1, a2, a3, a4, a5, a6⟩ := hR
    have dz : ¬ d = 0 := by omega
    unfold rateV at hs ⊢
    go_enter Tryz.func185, Tryz.ntmps185
    go_wp2_with fail
    refine (hs _).mono ?_
    rintro e w1 ⟨rfl, hb1⟩
    obtain ⟨g1, g2, bel⟩ := two_rows hb1
    have k1 := rat_cells g1
    have k2 := rat_cells g2
    clear hs hb1
    go_wp2
    go_region
    go_wp2
    refine bodyPost_ret (v := .tuple #[.agg #[.int .i64 n, .int .i64 d, .int .i64 ((r + n) % d)], .int .i64 ((r + n) / d)]) (by simp [results, Tryz.results185, go_sem, k2]) rfl ⟨rfl, ?_⟩
    refine Below.drew ?_
    exact (((bel.setCell (by simp) _).setCell (by simp) _).setCell (by simp) _).setCell (by simp) _
  · rw [show stepR n d r = r from if_neg hR, show stepO n d r = 0 from if_neg hR]
    rw [show rateOk n d r = false from decide_eq_false hR] at hs
    unfold rateV at hs ⊢
    go_enter Tryz.func185, Tryz.ntmps185
    go_wp2_with fail
    refine (hs _).mono ?_
    rintro e w1 ⟨rfl, hb1⟩
    obtain ⟨g1, g2, bel⟩ := two_rows hb1
    have k1 := rat_cells g1
    have k2 := rat_cells g2
    clear hs hb1
    go_wp2
    refine bodyPost_ret (v := .tuple #[.agg #[.int .i64 n, .int .i64 d, .int .i64 r], .int .i64 0]) (by simp [results, Tryz.results185, go_sem, k2]) rfl ⟨rfl, ?_⟩
    exact ((bel.setCell (by simp) _).setCell (by simp) _).setCell (by simp) _
theorem eqRat (n d r : Int) (w : World) : Calls Tryz.prog 118 #[rateV n d r, rateV n d r] w fun e w' => e = .returned (.bool true) ∧ Below w.heap.size w w' := by
  unfold rateV
  go_enter Tryz.func118, Tryz.ntmps118
  go_wp2
  go_ret
  exact ⟨rfl, ((Below.refl _ _).alloc (Nat.le_refl _) _).alloc (by simp) _⟩
end Go.Proofs.YtfhhnelffldggaaGreatDoor
namespace Go.Proofs.YtfhhnelffldggaaGreatDoor.Q
set_option linter.unusedVariables false
def half (x : Nat) : Nat := if x % 2 = 1 then x / 2 ^^^ 3558460437 else x / 2
theorem half_odd {x : Nat} (h : x % 2 = 1) : half x = x / 2 ^^^ 3558460437 := by unfold half; rw [if_pos h]
theorem half_even {x : Nat} (h : x % 2 = 0) : half x = x / 2 := by unfold half; rw [if_neg (by omega)]
theorem half_lt {x : Nat} (h : x < 4294967296) : half x < 4294967296 := by
  unfold half; split
  · exact Nat.xor_lt_two_pow (n := 32) (by omega) (by omega)
  · omega
theorem xor_half (x y : Nat) : (x ^^^ y) / 2 = x / 2 ^^^ y / 2 := by
  apply Nat.eq_of_testBit_eq
  intro i
  simp [Nat.testBit_xor, Nat.testBit_div_two]
theorem xor_odd (x y : Nat) : (x ^^^ y) % 2 = (x + y) % 2 := by
  have h : (x ^^^ y).testBit 0 = (x.testBit 0 ^^ y.testBit 0) := Nat.testBit_xor ..
  simp only [Nat.testBit_zero] at h
  have hx := Nat.mod_two_eq_zero_or_one x
  have hy := Nat.mod_two_eq_zero_or_one y
  have hz := Nat.mod_two_eq_zero_or_one (x ^^^ y)
  rcases hx with hx | hx <;> rcases hy with hy | hy <;> rcases hz with hz | hz <;> simp [hx, hy, hz] at h <;> omega
theorem half_xor (x y : Nat) : half (x ^^^ y) = half x ^^^ half y := by
  have o := xor_odd x y
  have e := xor_half x y
  rcases Nat.mod_two_eq_zero_or_one x with hx | hx <;> rcases Nat.mod_two_eq_zero_or_one y with hy | hy
  · rw [half_even hx, half_even hy, half_even (by omega), e]
  · rw [half_even hx, half_odd hy, half_odd (by omega), e, Nat.xor_assoc]
  · rw [half_odd hx, half_even hy, half_odd (by omega), e, Nat.xor_assoc, Nat.xor_assoc, Nat.xor_comm (y / 2)]
  · rw [half_odd hx, half_odd hy, half_even (by omega), e, Nat.xor_assoc, Nat.xor_comm 3558460437, Nat.xor_assoc, Nat.xor_self, Nat.xor_zero]
def fourH (x : Nat) : Nat := half (half (half (half x)))
theorem fourH_lt {x : Nat} (h : x < 4294967296) : fourH x < 4294967296 := half_lt (half_lt (half_lt (half_lt h)))
theorem fourH_xor (x y : Nat) : fourH (x ^^^ y) = fourH x ^^^ fourH y := by
  unfold fourH; rw [half_xor, half_xor, half_xor, half_xor]
theorem fourH_low (q : Nat) : fourH (16 * q) = q := by
  unfold fourH
  rw [half_even (x := 16 * q) (by omega), half_even (x := 16 * q / 2) (by omega), half_even (x := 16 * q / 2 / 2) (by omega), half_even (x := 16 * q / 2 / 2 / 2) (by omega)]
  omega
def tab : Nat → Nat
  | 0 => 0 | 1 => 1166650509 | 2 => 2333301018 | 3 => 3466261911 | 4 => 3189058079 | 5 => 4221339282 | 6 => 889615109 | 7 => 1888477064
  | 8 => 3558460437 | 9 => 2442158232 | 10 => 1594529039 | 11 => 444807554 | 12 => 1779230218 | 13 => 797264519 | 14 => 3776954128 | 15 => 2761298845
  | _ => 0
theorem tab_at : ∀ r : Nat, r < 16 → fourH r = tab r := by decide
theorem tab_lt : ∀ r : Nat, tab r < 4294967296 := by
  intro r; unfold tab; split <;> omega
theorem low_xor (q r : Nat) (h : r < 16) : 16 * q + r = 16 * q ^^^ r := by
  apply Nat.eq_of_testBit_eq
  intro i
  rw [Nat.testBit_xor, show 16 * q = 2 ^ 4 * q by omega, Nat.testBit_two_pow_mul_add _ (by omega), Nat.testBit_two_pow_mul]
  by_cases h4 : i < 4
  · simp [h4, show ¬ 4 ≤ i by omega]
  · have : r.testBit i = false := Nat.testBit_lt_two_pow (Nat.lt_of_lt_of_le h (by exact Nat.pow_le_pow_right (n := 2) (by omega) (show 4 ≤ i by omega)))
    simp [h4, this]; intro hh; omega
theorem fourH_tab (x : Nat) : fourH x = x / 16 ^^^ tab (x % 16) := by
  have e : x = 16 * (x / 16) ^^^ x % 16 := by rw [← low_xor _ _ (by omega)]; omega
  conv => lhs; rw [e]
  rw [fourH_xor, fourH_low, tab_at _ (by omega)]
def eight (x : Nat) : Nat := fourH (fourH x)
theorem eight_lt {x : Nat} (h : x < 4294967296) : eight x < 4294967296 := fourH_lt (fourH_lt h)
def halves : Nat → Nat → Nat
  | 0, y => y
  | k + 1, y => half (halves k y)
theorem halves_eight (y : Nat) : halves 8 y = eight y := rfl
theorem halves_lt {y : Nat} (h : y < 4294967296) (k : Nat) : halves k y < 4294967296 := by
  induction k with
  | zero => exact h
  | succ k ih => exact half_lt ih
theorem halves_odd {y k : Nat} (h : halves k y % 2 = 1) : halves (k + 1) y = halves k y / 2 ^^^ 3558460437 := half_odd h
theorem halves_even {y k : Nat} (h : halves k y % 2 = 0) : halves (k + 1) y = halves k y / 2 := half_even h
theorem byte_lt {x : Nat} (h : x < 4294967296) (c : UInt8) : x ^^^ c.toNat < 4294967296 :=
  Nat.xor_lt_two_pow (n := 32) (by omega) (by have := c.toNat_lt; omega)
def crc (x : Nat) (l : List UInt8) : Nat := l.foldl (fun x c => eight (x ^^^ c.toNat)) x
theorem crc_snoc (x : Nat) (l : List UInt8) (c : UInt8) : crc x (l ++ [c]) = eight (crc x l ^^^ c.toNat) := by
  unfold crc; rw [List.foldl_append]; rfl
theorem crc_lt {x : Nat} (h : x < 4294967296) (l : List UInt8) : crc x l < 4294967296 := by
  induction l generalizing x with
  | nil => exact h
  | cons c l ih => exact ih (eight_lt (byte_lt h c))
theorem crc_take (x : Nat) (s : ByteArray) (k : Nat) (h : k < s.size) : crc x (s.data.toList.take (k + 1)) = eight (crc x (s.data.toList.take k) ^^^ s[k].toNat) := by
  rw [← crc_snoc, List.take_succ_eq_append_getElem (by simpa using h)]; rfl
def fourB (x : Nat) : List UInt8 := [UInt8.ofNat (x / 16777216), UInt8.ofNat (x / 65536), UInt8.ofNat (x / 256), UInt8.ofNat x]
end Go.Proofs.YtfhhnelffldggaaGreatDoor.Q
namespace Go.Proofs.YtfhhnelffldggaaGreatDoor.Plain
def vt (n : Nat) : List UInt8 := if 127 < n then UInt8.ofNat (n % 128 + 128) :: vt (n / 128) else [UInt8.ofNat n]
theorem vt_big {n : Nat} (h : 127 < n) : vt n = UInt8.ofNat (n % 128 + 128) :: vt (n / 128) := by
  rw [vt, if_pos h]
theorem vt_small {n : Nat} (h : ¬ 127 < n) : vt n = [UInt8.ofNat n] := by
  rw [vt, if_neg h]
theorem vt_pos (n : Nat) : 0 < (vt n).length := by
  rw [vt]; split <;> simp
theorem toNat_big (m : Nat) : (UInt8.ofNat (m % 128 + 128)).toNat = m % 128 + 128 := by
  rw [UInt8.toNat_ofNat']; omega
theorem toNat_small {m : Nat} (h : ¬ 127 < m) : (UInt8.ofNat m).toNat = m := by
  rw [UInt8.toNat_ofNat']; omega
end Go.Proofs.YtfhhnelffldggaaGreatDoor.Plain
namespace Go.Proofs.YtfhhnelffldggaaGreatDoor
open Go.RowKit Go.PlainAid
set_option linter.unusedVariables false
section
variable {P : Program} {md : Region.Mode} {ops : Array Oper} {Q : Exit → Act → World → Prop} {S : World → Prop}
theorem any_states {σ : Type} (L : σ → Array Bool) (E : σ → List Nat) (rk : σ → Nat) (ok fin : σ → Bool) (St : σ → Act → World → Prop)
    (hrd : ∀ s, ok s = true → fin s = false → Region.ready md ops (L s) = E s ∧ E s ≠ [] ∧ 0 < rk s)
    (hst : ∀ s i, ok s = true → fin s = false → i ∈ E s → ∃ s', (L s).setIfInBounds i true = L s' ∧ ok s' = true ∧ rk s' < rk s ∧ ∀ a w, S w → St s a w → wpOp P ops Q i (fun a' w' => S w' ∧ St s' a' w') a w)
    (hfi : ∀ s a w f, ok s = true → fin s = true → rk s ≤ f → S w → St s a w → wpAnyH P md ops Q S f (L s) a w) :
    ∀ n s a w f, rk s ≤ n → rk s ≤ f → ok s = true → S w → St s a w → wpAnyH P md ops Q S f (L s) a w := by
  intro n
  induction n with
  | zero =>
    intro s a w f hn hf hok hS hSt
    cases hfs : fin s with
    | true => exact hfi s a w f hok hfs hf hS hSt
    | false => have := (hrd s hok hfs).2.2; omega
  | succ n ih =>
    intro s a w f hn hf hok hS hSt
    cases hfs : fin s with
    | true => exact hfi s a w f hok hfs hf hS hSt
    | false =>
      obtain ⟨h1, h2, h3⟩ := hrd s hok hfs
      obtain ⟨f', rfl⟩ : ∃ f', f = f' + 1 := ⟨f - 1, by omega⟩
      refine ⟨fun h => absurd (h1 ▸ h) h2, fun i hi => ?_⟩
      rw [h1] at hi
      obtain ⟨s', e1, e2, e3, e4⟩ := hst s i hok hfs hi
      exact wpOp_mono (fun a' w' h => ⟨h.1, by rw [e1]; exact ih s' a' w' f' (by omega) (by omega) e2 h.1 h.2⟩) (e4 a w hS hSt)
end
end Go.Proofs.YtfhhnelffldggaaGreatDoor
