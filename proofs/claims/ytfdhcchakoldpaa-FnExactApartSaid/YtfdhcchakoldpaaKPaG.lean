/-
  Parts of a kernel: compared, sized, as they came in.
-/
import Derived.Test.YtfdhcchakoldpaaKPaF
namespace Go.Proofs.Ytfdhcchakoldpaa
open Go.ChangeShapes Go.WideShapes Go.ChangeAt Go.RowKit Go.PlainAid
set_option linter.unusedVariables false

set_option maxRecDepth 100000 in
set_option maxHeartbeats 1000000 in
theorem eqPt (st pc ss en la : Int) (a b : Option Addr) (l : List Int) (n ca cb : Nat) (hl : l.length = n) (hn : n ≤ 1048576) (w : World) (ha : Rd w a l) (hb : Rd w b l) :
    Calls Try.prog 131 #[.agg #[.int .i64 st, .int .i64 pc, .slice a n ca, .int .i64 ss, .int .i64 en, .int .i64 la], .agg #[.int .i64 st, .int .i64 pc, .slice b n cb, .int .i64 ss, .int .i64 en, .int .i64 la]] w fun e w' => e = .returned (.bool true) ∧ Below w.heap.size w w' := by
  have HX : Hid (_ = _) := al2_1 w (.cells #[.int .i64 st, .int .i64 pc, .slice a n ca, .int .i64 ss, .int .i64 en, .int .i64 la] 100) (.cells #[.int .i64 st, .int .i64 pc, .slice b n cb, .int .i64 ss, .int .i64 en, .int .i64 la] 100)
  have HY : Hid (_ = _) := al2_2 w (.cells #[.int .i64 st, .int .i64 pc, .slice a n ca, .int .i64 ss, .int .i64 en, .int .i64 la] 100) (.cells #[.int .i64 st, .int .i64 pc, .slice b n cb, .int .i64 ss, .int .i64 en, .int .i64 la] 100)
  have HB : Hid (Below _ _ _) := al2_b w (.cells #[.int .i64 st, .int .i64 pc, .slice a n ca, .int .i64 ss, .int .i64 en, .int .i64 la] 100) (.cells #[.int .i64 st, .int .i64 pc, .slice b n cb, .int .i64 ss, .int .i64 en, .int .i64 la] 100)
  have HRa : Hid (Rd _ _ _) := ha.keep HB.out (Nat.le_refl _)
  have HRb : Hid (Rd _ _ _) := hb.keep HB.out (Nat.le_refl _)
  have HL : Hid (l.length = n) := hl
  clear ha hb hl
  go_enter Try.func131, Try.ntmps131
  go_wp2_with fail
  refine (eqC a b pc l n ca cb HL.out hn _ HRa.out HRb.out).mono ?_
  rintro e w1 ⟨rfl, hb1⟩
  have kx := box6_cells (row_on HX.out hb1)
  have ky := box6_cells (row_on HY.out hb1)
  have HW : Hid (Below w.heap.size w w1) := bel_on (Nat.le_refl _) HB.out hb1
  clear hb1 HX HY HB HRa HRb
  go_wp2
  go_ret
  exact ⟨rfl, HW.out⟩
theorem keepQ {w W W' : World} {ga oa gb ob j : Nat} {x0 x1 x2 x3 x4 x5 y0 y1 y2 y3 y4 y5 : Value} (hb : Below W.heap.size W W') (h : W.cell? ⟨ga, oa + j * 6, none⟩ = some x0 ∧ W.cell? ⟨ga, oa + j * 6 + 1, none⟩ = some x1 ∧ W.cell? ⟨ga, oa + j * 6 + 2, none⟩ = some x2 ∧ W.cell? ⟨ga, oa + j * 6 + 3, none⟩ = some x3 ∧ W.cell? ⟨ga, oa + j * 6 + 4, none⟩ = some x4 ∧ W.cell? ⟨ga, oa + j * 6 + 5, none⟩ = some x5 ∧ W.cell? ⟨gb, ob + j * 6, none⟩ = some y0 ∧ W.cell? ⟨gb, ob + j * 6 + 1, none⟩ = some y1 ∧ W.cell? ⟨gb, ob + j * 6 + 2, none⟩ = some y2 ∧ W.cell? ⟨gb, ob + j * 6 + 3, none⟩ = some y3 ∧ W.cell? ⟨gb, ob + j * 6 + 4, none⟩ = some y4 ∧ W.cell? ⟨gb, ob + j * 6 + 5, none⟩ = some y5 ∧ Below w.heap.size w W) :
    W'.cell? ⟨ga, oa + j * 6, none⟩ = some x0 ∧ W'.cell? ⟨ga, oa + j * 6 + 1, none⟩ = some x1 ∧ W'.cell? ⟨ga, oa + j * 6 + 2, none⟩ = some x2 ∧ W'.cell? ⟨ga, oa + j * 6 + 3, none⟩ = some x3 ∧ W'.cell? ⟨ga, oa + j * 6 + 4, none⟩ = some x4 ∧ W'.cell? ⟨ga, oa + j * 6 + 5, none⟩ = some x5 ∧ W'.cell? ⟨gb, ob + j * 6, none⟩ = some y0 ∧ W'.cell? ⟨gb, ob + j * 6 + 1, none⟩ = some y1 ∧ W'.cell? ⟨gb, ob + j * 6 + 2, none⟩ = some y2 ∧ W'.cell? ⟨gb, ob + j * 6 + 3, none⟩ = some y3 ∧ W'.cell? ⟨gb, ob + j * 6 + 4, none⟩ = some y4 ∧ W'.cell? ⟨gb, ob + j * 6 + 5, none⟩ = some y5 ∧ Below w.heap.size w W' := by
  obtain ⟨h0, h1, h2, h3, h4, h5, h6, h7, h8, h9, h10, h11, h12⟩ := h
  exact ⟨cell_on h0 hb, cell_on h1 hb, cell_on h2 hb, cell_on h3 hb, cell_on h4 hb, cell_on h5 hb, cell_on h6 hb, cell_on h7 hb, cell_on h8 hb, cell_on h9 hb, cell_on h10 hb, cell_on h11 hb, bel_on (Nat.le_refl _) h12 hb⟩
theorem belQ {w W : World} {P0 P1 P2 P3 P4 P5 P6 P7 P8 P9 P10 P11 : Prop} (h : P0 ∧ P1 ∧ P2 ∧ P3 ∧ P4 ∧ P5 ∧ P6 ∧ P7 ∧ P8 ∧ P9 ∧ P10 ∧ P11 ∧ Below w.heap.size w W) : Below w.heap.size w W := h.2.2.2.2.2.2.2.2.2.2.2.2
theorem drewQ {w W : World} {ga oa gb ob j : Nat} {x0 x1 x2 x3 x4 x5 y0 y1 y2 y3 y4 y5 : Value} (h : W.cell? ⟨ga, oa + j * 6, none⟩ = some x0 ∧ W.cell? ⟨ga, oa + j * 6 + 1, none⟩ = some x1 ∧ W.cell? ⟨ga, oa + j * 6 + 2, none⟩ = some x2 ∧ W.cell? ⟨ga, oa + j * 6 + 3, none⟩ = some x3 ∧ W.cell? ⟨ga, oa + j * 6 + 4, none⟩ = some x4 ∧ W.cell? ⟨ga, oa + j * 6 + 5, none⟩ = some x5 ∧ W.cell? ⟨gb, ob + j * 6, none⟩ = some y0 ∧ W.cell? ⟨gb, ob + j * 6 + 1, none⟩ = some y1 ∧ W.cell? ⟨gb, ob + j * 6 + 2, none⟩ = some y2 ∧ W.cell? ⟨gb, ob + j * 6 + 3, none⟩ = some y3 ∧ W.cell? ⟨gb, ob + j * 6 + 4, none⟩ = some y4 ∧ W.cell? ⟨gb, ob + j * 6 + 5, none⟩ = some y5 ∧ Below w.heap.size w W) :
    W.drew.cell? ⟨ga, oa + j * 6, none⟩ = some x0 ∧ W.drew.cell? ⟨ga, oa + j * 6 + 1, none⟩ = some x1 ∧ W.drew.cell? ⟨ga, oa + j * 6 + 2, none⟩ = some x2 ∧ W.drew.cell? ⟨ga, oa + j * 6 + 3, none⟩ = some x3 ∧ W.drew.cell? ⟨ga, oa + j * 6 + 4, none⟩ = some x4 ∧ W.drew.cell? ⟨ga, oa + j * 6 + 5, none⟩ = some x5 ∧ W.drew.cell? ⟨gb, ob + j * 6, none⟩ = some y0 ∧ W.drew.cell? ⟨gb, ob + j * 6 + 1, none⟩ = some y1 ∧ W.drew.cell? ⟨gb, ob + j * 6 + 2, none⟩ = some y2 ∧ W.drew.cell? ⟨gb, ob + j * 6 + 3, none⟩ = some y3 ∧ W.drew.cell? ⟨gb, ob + j * 6 + 4, none⟩ = some y4 ∧ W.drew.cell? ⟨gb, ob + j * 6 + 5, none⟩ = some y5 ∧ Below w.heap.size w W.drew := by
  obtain ⟨h0, h1, h2, h3, h4, h5, h6, h7, h8, h9, h10, h11, h12⟩ := h
  exact ⟨h0, h1, h2, h3, h4, h5, h6, h7, h8, h9, h10, h11, h12.drew⟩
set_option maxRecDepth 100000 in
set_option maxHeartbeats 4000000 in
theorem eqPs (a b : Option Addr) (l : List PX) (n ca' cb' : Nat) (hl : l.length = n) (hn : n ≤ 1048576) (hs : ∀ j (h : j < l.length), l[j].sk.length ≤ 1048576) (w : World) (ha : RdP w a l) (hb : RdP w b l) :
    Calls Try.prog 72 #[.slice a n ca', .slice b n cb'] w fun e w' => e = .returned (.bool true) ∧ Below w.heap.size w w' := by
  have HL : Hid (l.length = n) := hl
  have HS : Hid (∀ j (h : j < l.length), l[j].sk.length ≤ 1048576) := hs
  clear hl hs
  by_cases hp : 0 < n
  · obtain ⟨ga, oa, rfl, hca⟩ := ha (by have := HL.out; omega)
    obtain ⟨gb, ob, rfl, hcb⟩ := hb (by have := HL.out; omega)
    have HA : Hid (∀ j (h : j < l.length), CelP w ga (oa + j * 6) l[j]) := hca
    have HB : Hid (∀ j (h : j < l.length), CelP w gb (ob + j * 6) l[j]) := hcb
    clear ha hb hca hcb
    go_enter Try.func72, Try.ntmps72
    go_wp2
    go_loopg [5] n (fun gk i wr => ∃ j : Nat, j + gk = n ∧ i = .int .i64 j ∧ Hid (Below w.heap.size w wr))
    case atStart => exact ⟨0, by omega, rfl, Below.refl _ _⟩
    case round =>
      obtain ⟨j, hj, rfl, HW⟩ := hrel
      by_cases hlt : j < n
      · have hjl : j < l.length := by have := HL.out; omega
        have hsz := HS.out j hjl
        have c := HA.out j hjl
        have d := HB.out j hjl
        obtain ⟨P, hP⟩ : ∃ P, P = l[j] := ⟨_, rfl⟩
        rw [← hP] at c d hsz
        clear hP
        obtain ⟨st, pc, sk, ss, en, la⟩ := P
        obtain ⟨c0, c1, ⟨ba, ca, c2, _, ra⟩, c3, c4, c5⟩ := c
        obtain ⟨d0, d1, ⟨bb, cb, d2, _, rb⟩, d3, d4, d5⟩ := d
        dsimp only at c0 c1 c2 c3 c4 c5 d0 d1 d2 d3 d4 d5 ra rb hsz
        obtain ⟨m, hm⟩ : ∃ m, sk.length = m := ⟨_, rfl⟩
        rw [hm] at c2 d2 hsz
        have HM : Hid (sk.length = m) := hm
        have RA : Hid (Rd w ba sk) := ra
        have RB : Hid (Rd w bb sk) := rb
        have HC : Hid (wr.cell? ⟨ga, oa + j * 6, none⟩ = some (.int .i64 st) ∧ wr.cell? ⟨ga, oa + j * 6 + 1, none⟩ = some (.int .i64 pc) ∧ wr.cell? ⟨ga, oa + j * 6 + 2, none⟩ = some (.slice ba m ca) ∧ wr.cell? ⟨ga, oa + j * 6 + 3, none⟩ = some (.int .i64 ss) ∧ wr.cell? ⟨ga, oa + j * 6 + 4, none⟩ = some (.int .i64 en) ∧ wr.cell? ⟨ga, oa + j * 6 + 5, none⟩ = some (.int .i64 la) ∧ wr.cell? ⟨gb, ob + j * 6, none⟩ = some (.int .i64 st) ∧ wr.cell? ⟨gb, ob + j * 6 + 1, none⟩ = some (.int .i64 pc) ∧ wr.cell? ⟨gb, ob + j * 6 + 2, none⟩ = some (.slice bb m cb) ∧ wr.cell? ⟨gb, ob + j * 6 + 3, none⟩ = some (.int .i64 ss) ∧ wr.cell? ⟨gb, ob + j * 6 + 4, none⟩ = some (.int .i64 en) ∧ wr.cell? ⟨gb, ob + j * 6 + 5, none⟩ = some (.int .i64 la) ∧ Below w.heap.size w wr) := keepQ HW.out ⟨c0, c1, c2, c3, c4, c5, d0, d1, d2, d3, d4, d5, Below.refl _ _⟩
        clear c0 c1 c2 c3 c4 c5 d0 d1 d2 d3 d4 d5 ra rb hm hjl
        have i0 : (0 : Int) ≤ (j : Int) := by omega
        have i1 : (j : Int) < (n : Int) := by omega
        go_wp2
        go_region_held3 (fun w' => w'.cell? ⟨ga, oa + j * 6, none⟩ = some (.int .i64 st) ∧ w'.cell? ⟨ga, oa + j * 6 + 1, none⟩ = some (.int .i64 pc) ∧ w'.cell? ⟨ga, oa + j * 6 + 2, none⟩ = some (.slice ba m ca) ∧ w'.cell? ⟨ga, oa + j * 6 + 3, none⟩ = some (.int .i64 ss) ∧ w'.cell? ⟨ga, oa + j * 6 + 4, none⟩ = some (.int .i64 en) ∧ w'.cell? ⟨ga, oa + j * 6 + 5, none⟩ = some (.int .i64 la) ∧ w'.cell? ⟨gb, ob + j * 6, none⟩ = some (.int .i64 st) ∧ w'.cell? ⟨gb, ob + j * 6 + 1, none⟩ = some (.int .i64 pc) ∧ w'.cell? ⟨gb, ob + j * 6 + 2, none⟩ = some (.slice bb m cb) ∧ w'.cell? ⟨gb, ob + j * 6 + 3, none⟩ = some (.int .i64 ss) ∧ w'.cell? ⟨gb, ob + j * 6 + 4, none⟩ = some (.int .i64 en) ∧ w'.cell? ⟨gb, ob + j * 6 + 5, none⟩ = some (.int .i64 la) ∧ Below w.heap.size w w') (first | (refine keepQ (by assumption) ?_; assumption) | (with_reducible exact drewQ HC.out)) (first | (go_at_call 131; refine (eqPt st pc ss en la ba bb sk m ca cb HM.out hsz _ (RA.out.keep (belQ (by assumption)) (Nat.le_refl _)) (RB.out.keep (belQ (by assumption)) (Nat.le_refl _))).mono ?_; rintro e w2 ⟨rfl, hb2⟩))
        rename_i HH
        have HW2 : Hid (Below w.heap.size w w2) := HH.2.2.2.2.2.2.2.2.2.2.2.2
        clear HH hb2 HC HW RA RB HM hsz
        go_wp2
        go_roundg (gk - 1)
        case measure => omega
        case rel => exact ⟨j + 1, by omega, by go_num, HW2⟩
      · go_wp2
        go_ret
        exact ⟨rfl, HW.out⟩
  · obtain rfl : n = 0 := by omega
    clear ha hb
    go_enter Try.func72, Try.ntmps72
    go_wp2
    go_rounds 1
    go_ret
    exact ⟨rfl, Below.refl _ _⟩
theorem szCp (a : Option Addr) (pc : Int) (n cap : Nat) (m : Int) (m0 : 0 ≤ m) (m1 : m ≤ 1048576) (hn : n ≤ 9223372036854775807) (w : World) : Calls Try.prog 172 #[.agg #[.int .i64 pc, .slice a n cap], .int .i64 m] w fun e w' => e = .returned (.int .i64 (if (n : Int) ≤ m then m - (n : Int) else -1)) ∧ Below w.heap.size w w' := by
  have HB : Hid (Below w.heap.size w (w.alloc (.cells #[.int .i64 pc, .slice a n cap] 209))) := (Below.refl _ _).alloc (Nat.le_refl _) _
  by_cases h : (n : Int) ≤ m
  · rw [if_pos h]
    have h0 : ¬ m - (n : Int) < 0 := by omega
    go_enter Try.func172, Try.ntmps172
    go_wp2_with fail
    refine (C.szI a n cap m m0 m1 hn _).mono ?_
    rw [if_pos (by omega)]
    rintro e w1 ⟨rfl, rfl⟩
    skip
    go_wp2
    go_ret
    exact ⟨rfl, HB.out⟩
  · rw [if_neg h]
    go_enter Try.func172, Try.ntmps172
    go_wp2_with fail
    refine (C.szI a n cap m m0 m1 hn _).mono ?_
    rw [if_neg (by omega)]
    rintro e w1 ⟨rfl, rfl⟩
    skip
    go_wp2
    go_ret
    exact ⟨rfl, HB.out⟩
theorem szPt (st pc ss en la : Int) (a : Option Addr) (n cap : Nat) (m : Int) (m0 : 0 ≤ m) (m1 : m ≤ 1048576) (hn : n ≤ 9223372036854775807) (w : World) : Calls Try.prog 116 #[.agg #[.int .i64 st, .int .i64 pc, .slice a n cap, .int .i64 ss, .int .i64 en, .int .i64 la], .int .i64 m] w fun e w' => e = .returned (.int .i64 (if (n : Int) ≤ m then m - (n : Int) else -1)) ∧ Below w.heap.size w w' := by
  have HB : Hid (Below w.heap.size w (w.alloc (.cells #[.int .i64 st, .int .i64 pc, .slice a n cap, .int .i64 ss, .int .i64 en, .int .i64 la] 211))) := (Below.refl _ _).alloc (Nat.le_refl _) _
  by_cases h : (n : Int) ≤ m
  · rw [if_pos h]
    have h0 : ¬ m - (n : Int) < 0 := by omega
    go_enter Try.func116, Try.ntmps116
    go_wp2_with fail
    refine (szCp a pc n cap m m0 m1 hn _).mono ?_
    rw [if_pos (by omega)]
    rintro e w1 ⟨rfl, hb1⟩
    have HW : Hid (Below w.heap.size w w1) := bel_on (Nat.le_refl _) HB.out hb1
    clear hb1
    go_wp2
    go_ret
    exact ⟨rfl, HW.out⟩
  · rw [if_neg h]
    go_enter Try.func116, Try.ntmps116
    go_wp2_with fail
    refine (szCp a pc n cap m m0 m1 hn _).mono ?_
    rw [if_neg (by omega)]
    rintro e w1 ⟨rfl, hb1⟩
    have HW : Hid (Below w.heap.size w w1) := bel_on (Nat.le_refl _) HB.out hb1
    clear hb1
    go_wp2
    go_ret
    exact ⟨rfl, HW.out⟩
set_option maxRecDepth 100000 in
set_option maxHeartbeats 1000000 in
theorem szPs (a : Option Addr) (l : List PX) (n cap : Nat) (m : Int) (m0 : 0 ≤ m) (m1 : m ≤ 1048576) (hl : l.length = n) (hn : n ≤ 9223372036854775807) (hz : ∀ j (h : j < l.length), l[j].sk.length ≤ 9223372036854775807) (w : World) (hr : RdP w a l) :
    Calls Try.prog 60 #[.slice a n cap, .int .i64 m] w fun e w' => ∃ r : Int, e = .returned (.int .i64 r) ∧ (r = -1 ∨ (0 ≤ r ∧ r ≤ m ∧ (n : Int) ≤ m ∧ ∀ j (h : j < l.length), l[j].sk.length ≤ 1048576)) ∧ Below w.heap.size w w' := by
  have HL : Hid (l.length = n) := hl
  have HZ : Hid (∀ j (h : j < l.length), l[j].sk.length ≤ 9223372036854775807) := hz
  have hwm : IntKind.i64.wrap (m - (n : Int)) = m - (n : Int) := wrap_in (by omega) (by omega)
  clear hz hl
  by_cases h1 : (n : Int) ≤ m
  · have h0 : ¬ m - (n : Int) < 0 := by omega
    by_cases hp : 0 < n
    · obtain ⟨g, off, rfl, hc⟩ := hr (by have := HL.out; omega)
      have HC : Hid (∀ j (h : j < l.length), CelP w g (off + j * 6) l[j]) := hc
      clear hr hc
      go_enter Try.func60, Try.ntmps60
      go_wp2
      go_loopg [1, 5] n (fun gk lv i wr => ∃ (j : Nat) (x : Int), j + gk = n ∧ lv = .int .i64 x ∧ i = .int .i64 j ∧ 0 ≤ x ∧ x ≤ m ∧ Hid (∀ i (h : i < l.length), i < j → l[i].sk.length ≤ 1048576) ∧ Hid (Below w.heap.size w wr))
      case atStart => exact ⟨0, m - n, by omega, rfl, rfl, by omega, by omega, fun i h h' => by omega, Below.refl _ _⟩
      case round =>
        clear hwm h0
        obtain ⟨j, x, hj, rfl, rfl, x0, x1, HX, HW⟩ := hrel
        by_cases hlt : j < n
        · have hjl : j < l.length := by have := HL.out; omega
          have hzj := HZ.out j hjl
          have c := (HC.out j hjl).keep HW.out (Nat.le_refl _)
          have HX1 : Hid (l[j].sk.length ≤ 1048576 → ∀ i (h : i < l.length), i < j + 1 → l[i].sk.length ≤ 1048576) := by
            intro hh i hi hij
            by_cases e : i = j
            · subst e; exact hh
            · exact HX.out i hi (by omega)
          obtain ⟨P, hP⟩ : ∃ P, P = l[j] := ⟨_, rfl⟩
          rw [← hP] at c hzj HX1
          clear hP HX
          obtain ⟨st, pc, sk, ss, en, la⟩ := P
          obtain ⟨c0, c1, ⟨b, cc, c2, _, _⟩, c3, c4, c5⟩ := c
          dsimp only at c0 c1 c2 c3 c4 c5 hzj HX1
          obtain ⟨k, hk⟩ : ∃ k, sk.length = k := ⟨_, rfl⟩
          rw [hk] at c2 hzj HX1
          clear hk hjl
          go_wp2_with fail
          refine (szPt st pc ss en la b k cc x x0 (by omega) hzj _).mono ?_
          rintro e w1 ⟨rfl, hb1⟩
          have HW1 : Hid (Below w.heap.size w w1) := bel_on (Nat.le_refl _) HW.out hb1
          clear hb1 HW c0 c1 c2 c3 c4 c5
          by_cases hk : (k : Int) ≤ x
          · rw [if_pos hk]
            have hneg : ¬ x - (k : Int) < 0 := by omega
            have HX2 : Hid (∀ i (h : i < l.length), i < j + 1 → l[i].sk.length ≤ 1048576) := HX1.out (by omega)
            clear HX1
            go_wp2
            go_roundg (gk - 1)
            case measure => omega
            case rel => exact ⟨j + 1, x - k, by omega, rfl, by go_num, by omega, by omega, HX2, HW1⟩
          · rw [if_neg hk]
            clear HX1
            go_wp2
            go_ret
            exact ⟨-1, rfl, .inl rfl, HW1.out⟩
        · have HX2 : Hid (∀ i (h : i < l.length), l[i].sk.length ≤ 1048576) := fun i h => HX.out i h (by have := HL.out; omega)
          clear HX
          go_wp2
          go_ret
          exact ⟨x, rfl, .inr ⟨x0, x1, h1, HX2.out⟩, HW.out⟩
    · obtain rfl : n = 0 := by omega
      have HX2 : Hid (∀ i (h : i < l.length), l[i].sk.length ≤ 1048576) := fun i h => by have := HL.out; omega
      clear hr hp
      go_enter Try.func60, Try.ntmps60
      go_wp2
      go_rounds 1
      go_ret
      exact ⟨m, rfl, .inr ⟨m0, Int.le_refl _, h1, HX2.out⟩, Below.refl _ _⟩
  · have h0 : m - (n : Int) < 0 := by omega
    clear hr
    go_enter Try.func60, Try.ntmps60
    go_wp2
    go_ret
    exact ⟨-1, rfl, .inl rfl, Below.refl _ _⟩
theorem openP_cells : Try.prog.cellsOf 211 = 6 := by kernel_rfl
theorem openP_cpu : Try.prog.cellsOf 209 = 2 := by kernel_rfl
theorem openP_ints : Try.prog.cellsOf 31 = 1 := by kernel_rfl
def wfP (p : PX) : Prop := (Lit.int .i64 p.st).wf = true ∧ (Lit.int .i64 p.pc).wf = true ∧ (Lit.int .i64 p.ss).wf = true ∧ (Lit.int .i64 p.en).wf = true ∧ (Lit.int .i64 p.la).wf = true
set_option maxRecDepth 100000 in
set_option maxHeartbeats 1000000 in
theorem openP {H : Type} {enc : TypeId × Value → H} {W : World} {held : Bool} {v : Value} {x : DataW H × List MemPlace} {bs fuel : Nat}
    (hf : DataW.trod enc Try.prog W bs (fun _ => true) held fuel 82 [v] = some x) :
    ∃ a len cap, ∃ l : List PX, v = .slice a len cap ∧ l.length = len ∧ len ≤ cap ∧ len ≤ 9223372036854775807 ∧ RdP W a l ∧ ∀ j (h : j < l.length), wfP l[j] ∧ l[j].sk.length ≤ 9223372036854775807 := by
  rcases Go.Deep.open_slice Try.underlying82 hf with ⟨hcs, _⟩ | ⟨ad, l, c, m, k, D, Pl, hcs, _, hl, hm, hmm, _, hcell⟩
  · simp at hcs
    subst hcs
    exact ⟨none, 0, 0, [], rfl, rfl, Nat.le_refl _, by omega, fun h => by simp at h, fun j h => by simp at h⟩
  · simp at hcs
    subst hcs
    simp at hmm
    subst hmm
    unfold maxLen at hm
    have each : ∀ i, i < l → ∃ p : PX, (W.cell? (ad.add (i * 6)) = some (.int .i64 p.st) ∧ W.cell? (ad.add (i * 6 + 1)) = some (.int .i64 p.pc) ∧ (∃ b c, W.cell? (ad.add (i * 6 + 2)) = some (.slice b p.sk.length c) ∧ p.sk.length ≤ c ∧ Rd W b p.sk) ∧ W.cell? (ad.add (i * 6 + 3)) = some (.int .i64 p.ss) ∧ W.cell? (ad.add (i * 6 + 4)) = some (.int .i64 p.en) ∧ W.cell? (ad.add (i * 6 + 5)) = some (.int .i64 p.la)) ∧ wfP p ∧ p.sk.length ≤ 9223372036854775807 := by
      intro i hi
      obtain ⟨cs', h1, h2⟩ := hcell i (by omega)
      rw [openP_cells] at h1
      obtain ⟨_, hlen, hc⟩ := World.cells?_some h1
      obtain ⟨xs, kk, hk, hxy, _, hxl, hf⟩ := DataW.trod_struct Try.underlying211 h2
      match xs, hxl, cs', hlen with
      | [y0, y1, y2, y3, y4], _, [v0, v1, v2, v3, v4, v5], _ =>
        have g0 := hf 0 _ rfl
        have g1 := hf 1 _ rfl
        have g2 := hf 2 _ rfl
        have g3 := hf 3 _ rfl
        have g4 := hf 4 _ rfl
        simp [cells3, openP_cpu] at g0 g1 g2 g3 g4
        have e0 := hc 0 (by omega)
        have e1 := hc 1 (by omega)
        have e2 := hc 2 (by omega)
        have e3 := hc 3 (by omega)
        have e4 := hc 4 (by omega)
        have e5 := hc 5 (by omega)
        rw [Go.Deep.add_add] at e0 e1 e2 e3 e4 e5
        obtain ⟨z0, q0, _, u0⟩ := DataW.trod_int Try.underlying3 g0
        obtain ⟨xs1, kk1, hk1, hxy1, _, hxl1, hf1⟩ := DataW.trod_struct Try.underlying209 g1
        obtain ⟨z2, q2, _, u2⟩ := DataW.trod_int Try.underlying3 g2
        obtain ⟨z3, q3, _, u3⟩ := DataW.trod_int Try.underlying3 g3
        obtain ⟨z4, q4, _, u4⟩ := DataW.trod_int Try.underlying3 g4
        match xs1, hxl1 with
        | [r0, r1], _ =>
        have t0 := hf1 0 _ rfl
        have t1 := hf1 1 _ rfl
        simp [cells3, openP_ints] at t0 t1
        obtain ⟨z1, q1, _, u1⟩ := DataW.trod_int Try.underlying3 t0
        obtain ⟨ba, len, cap, sk, q5, hsl, hcap, hmax, hrd, _⟩ := C.openI t1
        simp at q0 q1 q2 q3 q4 q5
        subst q0 q1 q2 q3 q4 q5
        subst hsl
        exact ⟨⟨z0, z1, sk, z2, z3, z4⟩, ⟨by simpa using e0, by simpa using e1, ⟨ba, cap, by simpa using e2, hcap, hrd⟩, by simpa using e3, by simpa using e4, by simpa using e5⟩, ⟨u0, u1, u2, u3, u4⟩, hmax⟩
    haveI : Inhabited PX := ⟨⟨0, 0, [], 0, 0, 0⟩⟩
    obtain ⟨q, hq⟩ := Go.Deep.choose_lt each
    refine ⟨some ad, l, _, (List.range l).map q, rfl, by simp, hl, by omega, fun h0 => ?_, fun j hj => ?_⟩
    · have h0' : 0 < l := by simpa using h0
      obtain ⟨b, off, spot⟩ := ad
      have hspot : spot = none := by simpa [Addr.add] using World.cell?_spot (hq 0 (by omega)).1.1
      subst hspot
      refine ⟨b, off, rfl, fun j hj => ?_⟩
      have hj' : j < l := by simpa using hj
      obtain ⟨⟨h0, h1, ⟨b2, c2, h2, hc2, hr2⟩, h3, h4, h5⟩, _⟩ := hq j hj'
      rw [add_at] at h0 h1 h2 h3 h4 h5
      simp only [List.getElem_map, List.getElem_range]
      exact ⟨h0, h1, ⟨b2, c2, h2, hc2, hr2⟩, h3, h4, h5⟩
    · have hj' : j < l := by simpa using hj
      simp only [List.getElem_map, List.getElem_range]
      exact (hq j hj').2
end Go.Proofs.Ytfdhcchakoldpaa
