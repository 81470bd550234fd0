/-
  Orders: which are right, their bytes; OrderOk and OrderText of the specification.
-/
import Derived.Test.YtjaimcmnndejgaaBase
namespace Go.Proofs.Ytjaimcmnndejgaa
open Go.RowKit Go.PlainAid
set_option linter.unusedVariables false
set_option linter.unusedSimpArgs false

theorem inS (l m n : Int) (b : Bool) (hb : decide (l ≤ n ∧ n ≤ m) = b) (w : World) : Calls Try.prog 42 #[.int .i64 n, .int .i64 l, .int .i64 m] w fun e w' => e = .returned (.bool b) ∧ w' = w := by
  go_enter Try.func42, Try.ntmps42
  by_cases h1 : l ≤ n
  · by_cases h2 : n ≤ m
    · go_wp2
      go_ret
      exact ⟨by rw [← hb, decide_eq_true ⟨h1, h2⟩]; rfl, rfl⟩
    · go_wp2
      go_ret
      exact ⟨by rw [← hb, decide_eq_false (fun h => by omega)]; rfl, rfl⟩
  · go_wp2
    go_ret
    exact ⟨by rw [← hb, decide_eq_false (fun h => by omega)]; rfl, rfl⟩

theorem bel_on {w W W' : World} {B : Nat} (hB : B ≤ w.heap.size) (h : Below B w W) (hb : Below W.heap.size W W') : Below B w W' := h.trans (hb.mono (Nat.le_trans hB h.size))
theorem row_lt {w : World} {k : Nat} {o : Obj} (h : w.heap[k]? = some o) : k < w.heap.size := by
  rcases Nat.lt_or_ge k w.heap.size with h' | h'
  · exact h'
  · rw [Array.getElem?_eq_none h'] at h; cases h
theorem row_on {w w' : World} {k : Nat} {o : Obj} (h : w.heap[k]? = some o) (hb : Below w.heap.size w w') : w'.heap[k]? = some o := (hb.block k (row_lt h)).trans h
theorem heap_new (w : World) (o : Obj) : (w.alloc o).heap[w.heap.size]? = some o := by
  show (w.heap.push _)[w.heap.size]? = _
  simp
theorem box4_cells {w : World} {k : Nat} {t : TypeId} {x0 x1 x2 x3 : Value} (h : w.heap[k]? = some (.cells #[x0, x1, x2, x3] t)) :
    (w.cell? ⟨k, 0, none⟩ = some x0 ∧ w.cell? ⟨k, 1, none⟩ = some x1 ∧ w.cell? ⟨k, 2, none⟩ = some x2 ∧ w.cell? ⟨k, 3, none⟩ = some x3) ∧ w.frozen? ⟨k, 0, none⟩ = false ∧ w.frozen? ⟨k, 1, none⟩ = false ∧ w.frozen? ⟨k, 2, none⟩ = false ∧ w.frozen? ⟨k, 3, none⟩ = false := by
  refine ⟨⟨?_, ?_, ?_, ?_⟩, ?_, ?_, ?_, ?_⟩ <;> simp [World.cell?, World.frozen?, h]

/-- a right order -/
def OrdR (k n d v : Int) : Prop := (k = 1 ∧ (1 ≤ d ∧ d ≤ 1000) ∧ (1 ≤ n ∧ n ≤ 1000) ∧ n ≤ 3 * d ∧ (1 ≤ v ∧ v ≤ 5000)) ∨ (k = 2 ∧ (1 ≤ v ∧ v ≤ 100) ∧ n = 0 ∧ d = 0) ∨ ((3 ≤ k ∧ k ≤ 6) ∧ n = 0 ∧ d = 0 ∧ v = 0)
def ordV (k n d v : Int) : Value := .agg #[.int .i64 k, .int .i64 n, .int .i64 d, .int .i64 v]
theorem ord_bool (k n d v : Int) : ∃ b : Bool, b = true ↔ OrdR k n d v := by
  by_cases h : OrdR k n d v
  · exact ⟨true, ⟨fun _ => h, fun _ => rfl⟩⟩
  · exact ⟨false, ⟨fun e => (by cases e), fun e => absurd e h⟩⟩
theorem ord_yes {k n d v : Int} {b : Bool} (hb : b = true ↔ OrdR k n d v) (h : OrdR k n d v) : b = true := hb.2 h
theorem ord_no {k n d v : Int} {b : Bool} (hb : b = true ↔ OrdR k n d v) (h : ¬ OrdR k n d v) : b = false := by
  cases b
  · rfl
  · exact absurd (hb.1 rfl) h
theorem OrdR.bd {k n d v : Int} (h : OrdR k n d v) : (1 ≤ k ∧ k ≤ 6) ∧ (0 ≤ n ∧ n ≤ 1000) ∧ (0 ≤ d ∧ d ≤ 1000) ∧ 0 ≤ v ∧ v ≤ 5000 := by
  unfold OrdR at h
  omega
set_option maxRecDepth 100000 in
set_option maxHeartbeats 2000000 in
theorem ordokS (k n d v : Int) (b : Bool) (hb : b = true ↔ OrdR k n d v) (w : World) : Calls Try.prog 20 #[ordV k n d v] w fun e w' => e = .returned (.bool b) ∧ Below w.heap.size w w' := by
  unfold ordV
  have HB : Hid (Below w.heap.size w (w.alloc (.cells #[.int .i64 k, .int .i64 n, .int .i64 d, .int .i64 v] 34))) := (Below.refl _ _).alloc (Nat.le_refl _) _
  have HK : Hid ((w.alloc (.cells #[.int .i64 k, .int .i64 n, .int .i64 d, .int .i64 v] 34)).heap[w.heap.size]? = some (.cells #[.int .i64 k, .int .i64 n, .int .i64 d, .int .i64 v] 34)) := heap_new w _
  have k0 := box4_cells HK.out
  by_cases k1 : k = 1
  · subst k1
    by_cases hd : 1 ≤ d ∧ d ≤ 1000
    · have Dd := decide_eq_true hd
      by_cases hn : 1 ≤ n ∧ n ≤ 1000
      · have Dn := decide_eq_true hn
        have hw : IntKind.i64.wrap (3 * d) = 3 * d := by rw [IntKind.wrap_i64]; omega
        by_cases h3 : n ≤ 3 * d
        · by_cases hv : 1 ≤ v ∧ v ≤ 5000
          · have Dv := decide_eq_true hv
            obtain rfl : b = true := (ord_yes hb (by unfold OrdR; omega))
            clear hb hv hd hn
            go_enter Try.func20, Try.ntmps20
            go_wp2_with fail
            refine (inS 1 1000 d true Dd _).mono ?_
            rintro e w1 ⟨rfl, rfl⟩
            go_wp2_with fail
            refine (inS 1 1000 n true Dn _).mono ?_
            rintro e w1 ⟨rfl, rfl⟩
            go_wp2_with fail
            refine (inS 1 5000 v true Dv _).mono ?_
            rintro e w1 ⟨rfl, rfl⟩
            go_wp2
            go_ret
            exact ⟨rfl, HB.out⟩
          · have Dv := decide_eq_false hv
            obtain rfl : b = false := (ord_no hb (fun h => by unfold OrdR at h; omega))
            clear hb hv hd hn
            go_enter Try.func20, Try.ntmps20
            go_wp2_with fail
            refine (inS 1 1000 d true Dd _).mono ?_
            rintro e w1 ⟨rfl, rfl⟩
            go_wp2_with fail
            refine (inS 1 1000 n true Dn _).mono ?_
            rintro e w1 ⟨rfl, rfl⟩
            go_wp2_with fail
            refine (inS 1 5000 v false Dv _).mono ?_
            rintro e w1 ⟨rfl, rfl⟩
            go_wp2
            go_ret
            exact ⟨rfl, HB.out⟩
        · obtain rfl : b = false := (ord_no hb (fun h => by unfold OrdR at h; omega))
          clear hb hd hn
          go_enter Try.func20, Try.ntmps20
          go_wp2_with fail
          refine (inS 1 1000 d true Dd _).mono ?_
          rintro e w1 ⟨rfl, rfl⟩
          go_wp2_with fail
          refine (inS 1 1000 n true Dn _).mono ?_
          rintro e w1 ⟨rfl, rfl⟩
          go_wp2
          go_ret
          exact ⟨rfl, HB.out⟩
      · have Dn := decide_eq_false hn
        obtain rfl : b = false := (ord_no hb (fun h => by unfold OrdR at h; omega))
        clear hb hd hn
        go_enter Try.func20, Try.ntmps20
        go_wp2_with fail
        refine (inS 1 1000 d true Dd _).mono ?_
        rintro e w1 ⟨rfl, rfl⟩
        go_wp2_with fail
        refine (inS 1 1000 n false Dn _).mono ?_
        rintro e w1 ⟨rfl, rfl⟩
        go_wp2
        go_ret
        exact ⟨rfl, HB.out⟩
    · have Dd := decide_eq_false hd
      obtain rfl : b = false := (ord_no hb (fun h => by unfold OrdR at h; omega))
      clear hb hd
      go_enter Try.func20, Try.ntmps20
      go_wp2_with fail
      refine (inS 1 1000 d false Dd _).mono ?_
      rintro e w1 ⟨rfl, rfl⟩
      go_wp2
      go_ret
      exact ⟨rfl, HB.out⟩
  by_cases k2 : k = 2
  · subst k2
    obtain ⟨x, hx⟩ : ∃ x, decide (1 ≤ v ∧ v ≤ 100) = x := ⟨_, rfl⟩
    have HE : Hid (b = (x && (n == 0 && d == 0))) := by
      show b = _
      rw [← hx]
      by_cases h : OrdR 2 n d v
      · rw [ord_yes hb h]
        unfold OrdR at h
        rw [decide_eq_true (by omega), show n = 0 by omega, show d = 0 by omega]; rfl
      · rw [ord_no hb h]
        unfold OrdR at h
        by_cases e1 : 1 ≤ v ∧ v ≤ 100
        · by_cases e2 : n = 0
          · have e3 : (d == 0) = false := by simp; omega
            rw [e3]; simp
          · have e3 : (n == 0) = false := by simpa using e2
            rw [e3]; simp
        · rw [decide_eq_false e1]; rfl
    clear hb
    go_enter Try.func20, Try.ntmps20
    go_wp2_with fail
    refine (inS 1 100 v x hx _).mono ?_
    rintro e w1 ⟨rfl, rfl⟩
    clear hx
    cases x
    · go_wp2
      go_ret
      exact ⟨by rw [HE.out]; rfl, HB.out⟩
    · by_cases e2 : n = 0
      · subst e2
        go_wp2
        go_ret
        exact ⟨by rw [HE.out]; simp, HB.out⟩
      · have e3 : (n == 0) = false := by simpa using e2
        rw [e3] at HE
        clear e2
        go_wp2
        go_ret
        exact ⟨by rw [HE.out]; rfl, HB.out⟩
  · have q1 : (k == 1) = false := by simpa using k1
    have q2 : (k == 2) = false := by simpa using k2
    obtain ⟨x, hx⟩ : ∃ x, decide (3 ≤ k ∧ k ≤ 6) = x := ⟨_, rfl⟩
    have HE : Hid (b = (x && (n == 0 && (d == 0 && v == 0)))) := by
      show b = _
      rw [← hx]
      by_cases h : OrdR k n d v
      · rw [ord_yes hb h]
        unfold OrdR at h
        rw [decide_eq_true (by omega), show n = 0 by omega, show d = 0 by omega, show v = 0 by omega]; rfl
      · rw [ord_no hb h]
        unfold OrdR at h
        by_cases e1 : 3 ≤ k ∧ k ≤ 6
        · by_cases e2 : n = 0
          · by_cases e4 : d = 0
            · have e3 : (v == 0) = false := by simp; omega
              rw [e3]; simp
            · have e3 : (d == 0) = false := by simpa using e4
              rw [e3]; simp
          · have e3 : (n == 0) = false := by simpa using e2
            rw [e3]; simp
        · rw [decide_eq_false e1]; rfl
    clear hb k1 k2
    go_enter Try.func20, Try.ntmps20
    go_wp2_with fail
    refine (inS 3 6 k x hx _).mono ?_
    rintro e w1 ⟨rfl, rfl⟩
    clear hx
    cases x
    · go_wp2
      go_ret
      exact ⟨by rw [HE.out]; rfl, HB.out⟩
    · by_cases e2 : n = 0
      · subst e2
        by_cases e4 : d = 0
        · subst e4
          go_wp2
          go_ret
          exact ⟨by rw [HE.out]; simp, HB.out⟩
        · have e3 : (d == 0) = false := by simpa using e4
          rw [e3] at HE
          clear e4
          go_wp2
          go_ret
          exact ⟨by rw [HE.out]; simp, HB.out⟩
      · have e3 : (n == 0) = false := by simpa using e2
        rw [e3] at HE
        clear e2
        go_wp2
        go_ret
        exact ⟨by rw [HE.out]; rfl, HB.out⟩
end Go.Proofs.Ytjaimcmnndejgaa
