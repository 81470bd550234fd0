/-
  Parts of a kernel: compared, sized, as they came in.
-/
import Derived.Test.YtphijlknefgkiaaGreatDoorKPaF
namespace Go.Proofs.YtphijlknefgkiaaGreatDoor
open Go.ChangeShapes Go.WideShapes Go.ChangeAt Go.RowKit Go.PlainAid
set_option linter.unusedVariables false

set_option maxRecDepth 100000 in
set_option maxHeartbeats 1000000 in
theorem eqPt (st pc ss en la : Int) (a b : Option Addr) (l : List Int) (n ca cb : Nat) (hl : l.length = n) (hn : n ≤ 1048576) (w : World) (ha : Rd w a l) (hb : Rd w b l) :
    Calls Tryz.prog 72 #[.agg #[.int .i64 st, .int .i64 pc, .slice a n ca, .int .i64 ss, .int .i64 en, .int .i64 la], .agg #[.int .i64 st, .int .i64 pc, .slice b n cb, .int .i64 ss, .int .i64 en, .int .i64 la]] w fun e w' => e = .returned (.bool true) ∧ Below w.heap.size w w' := by
  have HX : Hid (_ = _) := al2_1 w (.cells #[.int .i64 st, .int .i64 pc, .slice a n ca, .int .i64 ss, .int .i64 en, .int .i64 la] 123) (.cells #[.int .i64 st, .int .i64 pc, .slice b n cb, .int .i64 ss, .int .i64 en, .int .i64 la] 123)
  have HY : Hid (_ = _) := al2_2 w (.cells #[.int .i64 st, .int .i64 pc, .slice a n ca, .int .i64 ss, .int .i64 en, .int .i64 la] 123) (.cells #[.int .i64 st, .int .i64 pc, .slice b n cb, .int .i64 ss, .int .i64 en, .int .i64 la] 123)
  have HB : Hid (Below _ _ _) := al2_b w (.cells #[.int .i64 st, .int .i64 pc, .slice a n ca, .int .i64 ss, .int .i64 en, .int .i64 la] 123) (.cells #[.int .i64 st, .int .i64 pc, .slice b n cb, .int .i64 ss, .int .i64 en, .int .i64 la] 123)
  have HRa : Hid (Rd _ _ _) := ha.keep HB.out (Nat.le_refl _)
  have HRb : Hid (Rd _ _ _) := hb.keep HB.out (Nat.le_refl _)
  have HL : Hid (l.length = n) := hl
  clear ha hb hl
  go_enter Tryz.func72, Tryz.ntmps72
  go_wp2_with fail
  refine (eqC a b pc l n ca cb HL.out hn _ HRa.out HRb.out).mono ?_
  rintro e w1 ⟨rfl, hb1⟩
  have kx := box6_cells (row_on HX.out hb1)
  have ky := box6_cells (row_on HY.out hb1)
  have HW : Hid (Below w.heap.size w w1) := bel_on (Nat.le_refl _) HB.out hb1
  clear hb1 HX HY HB HRa HRb
  go_wp2
  go_ret
  exact ⟨rfl, HW.out⟩
theorem keepQ {w W W' : World} {ga oa gb ob j : Nat} {x0 x1 x2 x3 x4 x5 y0 y1 y2 y3 y4 y5 : Value} (hb : Below W.heap.size W W') (h : W.cell? ⟨ga, oa + j * 6, none⟩ = some x0 ∧ W.cell? ⟨ga, oa + j * 6 + 1, none⟩ = some x1 ∧ W.cell? ⟨ga, oa + j * 6 + 2, none⟩ = some x2 ∧ W.cell? ⟨ga, oa + j * 6 + 3, none⟩ = some x3 ∧ W.cell? ⟨ga, oa + j * 6 + 4, none⟩ = some x4 ∧ W.cell? ⟨ga, oa + j * 6 + 5, none⟩ = some x5 ∧ W.cell? ⟨gb, ob + j * 6, none⟩ = some y0 ∧ W.cell? ⟨gb, ob + j * 6 + 1, none⟩ = some y1 ∧ W.cell? ⟨gb, ob + j * 6 + 2, none⟩ = some y2 ∧ W.cell? ⟨gb, ob + j * 6 + 3, none⟩ = some y3 ∧ W.cell? ⟨gb, ob + j * 6 + 4, none⟩ = some y4 ∧ W.cell? ⟨gb, ob + j * 6 + 5, none⟩ = some y5 ∧ Below w.heap.size w W) :
    W'.cell? ⟨ga, oa + j * 6, none⟩ = some x0 ∧ W'.cell? ⟨ga, oa + j * 6 + 1, none⟩ = some x1 ∧ W'.cell? ⟨ga, oa + j * 6 + 2, none⟩ = some x2 ∧ W'.cell? ⟨ga, oa + j * 6 + 3, none⟩ = some x3 ∧ W'.cell? ⟨ga, oa + j * 6 + 4, none⟩ = some x4 ∧ W'.cell? ⟨ga, oa + j * 6 + 5, none⟩ = some x5 ∧ W'.cell? ⟨gb, ob + j * 6, none⟩ = some y0 ∧ W'.cell? ⟨gb, ob + j * 6 + 1, none⟩ = some y1 ∧ W'.cell? ⟨gb, ob + j * 6 + 2, none⟩ = some y2 ∧ W'.cell? ⟨gb, ob + j * 6 + 3, none⟩ = some y3 ∧ W'.cell? ⟨gb, ob + j * 6 + 4, none⟩ = some y4 ∧ W'.cell? ⟨gb, ob + j * 6 + 5, none⟩ = some y5 ∧ Below w.heap.size w W' := by
  obtain ⟨h0, h1, h2, h3, h4, h5, h6, h7, h8, h9, h10, h11, h12⟩ := h
  exact ⟨cell_on h0 hb, cell_on h1 hb, cell_on h2 hb, cell_on h3 hb, cell_on h4 hb, cell_on h5 hb, cell_on h6 hb, cell_on h7 hb, cell_on h8 hb, cell_on h9 hb, cell_on h10 hb, cell_on h11 hb, bel_on (Nat.le_refl _) h12 hb⟩
theorem belQ {w W : World} {P0 P1 P2 P3 P4 P5 P6 P7 P8 P9 P10 P11 : Prop} (h : P0 ∧ P1 ∧ P2 ∧ P3 ∧ P4 ∧ P5 ∧ P6 ∧ P7 ∧ P8 ∧ P9 ∧ P10 ∧ P11 ∧ Below w.heap.size w W) : Below w.heap.size w W := h.2.2.2.2.2.2.2.2.2.2.2.2
theorem drewQ {w W : World} {ga oa gb ob j : Nat} {x0 x1 x2 x3 x4 x5 y0 y1 y2 y3 y4 y5 : Value} (h : W.cell? ⟨ga, oa + j * 6, none⟩ = some x0 ∧ W.cell? ⟨ga, oa + j * 6 + 1, none⟩ = some x1 ∧ W.cell? ⟨ga, oa + j * 6 + 2, none⟩ = some x2 ∧ W.cell? ⟨ga, oa + j * 6 + 3, none⟩ = some x3 ∧ W.cell? ⟨ga, oa + j * 6 + 4, none⟩ = some x4 ∧ W.cell? ⟨ga, oa + j * 6 + 5, none⟩ = some x5 ∧ W.cell? ⟨gb, ob + j * 6, none⟩ = some y0 ∧ W.cell? ⟨gb, ob + j * 6 + 1, none⟩ = some y1 ∧ W.cell? ⟨gb, ob + j * 6 + 2, none⟩ = some y2 ∧ W.cell? ⟨gb, ob + j * 6 + 3, none⟩ = some y3 ∧ W.cell? ⟨gb, ob + j * 6 + 4, none⟩ = some y4 ∧ W.cell? ⟨gb, ob + j * 6 + 5, none⟩ = some y5 ∧ Below w.heap.size w W) :
    W.drew.cell? ⟨ga, oa + j * 6, none⟩ = some x0 ∧ W.drew.cell? ⟨ga, oa + j * 6 + 1, none⟩ = some x1 ∧ W.drew.cell? ⟨ga, oa + j * 6 + 2, none⟩ = some x2 ∧ W.drew.cell? ⟨ga, oa + j * 6 + 3, none⟩ = some x3 ∧ W.drew.cell? ⟨ga, oa + j * 6 + 4, none⟩ = some x4 ∧ W.drew.cell? ⟨ga, oa + j * 6 + 5, none⟩ = some x5 ∧ W.drew.cell? ⟨gb, ob + j * 6, none⟩ = some y0 ∧ W.drew.cell? ⟨gb, ob + j * 6 + 1, none⟩ = some y1 ∧ W.drew.cell? ⟨gb, ob + j * 6 + 2, none⟩ = some y2 ∧ W.drew.cell? ⟨gb, ob + j * 6 + 3, none⟩ = some y3 ∧ W.drew.cell? ⟨gb, ob + j * 6 + 4, none⟩ = some y4 ∧ W.drew.cell? ⟨gb, ob + j * 6 + 5, none⟩ = some y5 ∧ Below w.heap.size w W.drew := by
  obtain ⟨h0, h1, h2, h3, h4, h5, h6, h7, h8, h9, h10, h11, h12⟩ := h
  exact ⟨h0, h1, h2, h3, h4, h5, h6, h7, h8, h9, h10, h11, h12.drew⟩
set_option maxRecDepth 100000 in
set_option maxHeartbeats 4000000 in
theorem eqPs (a b : Option Addr) (l : List PX) (n ca' cb' : Nat) (hl : l.length = n) (hn : n ≤ 1048576) (hs : ∀ j (h : j < l.length), l[j].sk.length ≤ 1048576) (w : World) (ha : RdP w a l) (hb : RdP w b l) :
    Calls Tryz.prog 30 #[.slice a n ca', .slice b n cb'] w fun e w' => e = .returned (.bool true) ∧ Below w.heap.size w w' := by
  have HL : Hid (l.length = n) := hl
  have HS : Hid (∀ j (h : j < l.length), l[j].sk.length ≤ 1048576) := hs
  clear hl hs
  by_cases hp : 0 < n
  · obtain ⟨ga, oa, rfl, hca⟩ := ha (by have := HL.out; omega)
    obtain ⟨gb, ob, rfl, hcb⟩ := hb (by have := HL.out; omega)
    have HA : Hid (∀ j (h : j < l.length), CelP w ga (oa + j * 6) l[j]) := hca
    have HB : Hid (∀ j (h : j < l.length), CelP w gb (ob + j * 6) l[j]) := hcb
    clear ha hb hca hcb
    go_enter Tryz.func30, Tryz.ntmps30
    go_wp2
    go_loopg [5] n (fun gk i wr => ∃ j : Nat, j + gk = n ∧ i = .int .i64 j ∧ Hid (Below w.heap.size w wr))
    case atStart => exact ⟨0, by omega, rfl, Below.refl _ _⟩
    case round =>
      obtain ⟨j, hj, rfl, HW⟩ := hrel
      by_cases hlt : j < n
      · have hjl : j < l.length := by have := HL.out; omega
        have hsz := HS.out j hjl
        have c := HA.out j hjl
        have d := HB.out j hjl
        obtain ⟨P, hP⟩ : ∃ P, P = l[j] := ⟨_, rfl⟩
        rw [← hP] at c d hsz
        clear hP
        obtain ⟨st, pc, sk, ss, en, la⟩ := P
        obtain ⟨c0, c1, ⟨ba, ca, c2, _, ra⟩, c3, c4, c5⟩ := c
        obtain ⟨d0, d1, ⟨bb, cb, d2, _, rb⟩, d3, d4, d5⟩ := d
        dsimp only at c0 c1 c2 c3 c4 c5 d0 d1 d2 d3 d4 d5 ra rb hsz
        obtain ⟨m, hm⟩ : ∃ m, sk.length = m := ⟨_, rfl⟩
        rw [hm] at c2 d2 hsz
        have HM : Hid (sk.length = m) := hm
        have RA : Hid (Rd w ba sk) := ra
        have RB : Hid (Rd w bb sk) := rb
        have HC : Hid (wr.cell? ⟨ga, oa + j * 6, none⟩ = some (.int .i64 st) ∧ wr.cell? ⟨ga, oa + j * 6 + 1, none⟩ = some (.int .i64 pc) ∧ wr.cell? ⟨ga, oa + j * 6 + 2, none⟩ = some (.slice ba m ca) ∧ wr.cell? ⟨ga, oa + j * 6 + 3, none⟩ = some (.int .i64 ss) ∧ wr.cell? ⟨ga, oa + j * 6 + 4, none⟩ = some (.int .i64 en) ∧ wr.cell? ⟨ga, oa + j * 6 + 5, none⟩ = some (.int .i64 la) ∧ wr.cell? ⟨gb, ob + j * 6, none⟩ = some (.int .i64 st) ∧ wr.cell? ⟨gb, ob + j * 6 + 1, none⟩ = some (.int .i64 pc) ∧ wr.cell? ⟨gb, ob + j * 6 + 2, none⟩ = some (.slice bb m cb) ∧ wr.cell? ⟨gb, ob + j * 6 + 3, none⟩ = some (.int .i64 ss) ∧ wr.cell? ⟨gb, ob + j * 6 + 4, none⟩ = some (.int .i64 en) ∧ wr.cell? ⟨gb, ob + j * 6 + 5, none⟩ = some (.int .i64 la) ∧ Below w.heap.size w wr) := keepQ HW.out ⟨c0, c1, c2, c3, c4, c5, d0, d1, d2, d3, d4, d5, Below.refl _ _⟩
        clear c0 c1 c2 c3 c4 c5 d0 d1 d2 d3 d4 d5 ra rb hm hjl
        have i0 : (0 : Int) ≤ (j : Int) := by omega
        have i1 : (j : Int) < (n : Int) := by omega
        go_wp2
        go_region_held3 (fun w' => w'.cell? ⟨ga, oa + j * 6, none⟩ = some (.int .i64 st) ∧ w'.cell? ⟨ga, oa + j * 6 + 1, none⟩ = some (.int .i64 pc) ∧ w'.cell? ⟨ga, oa + j * 6 + 2, none⟩ = some (.slice ba m ca) ∧ w'.cell? ⟨ga, oa + j * 6 + 3, none⟩ = some (.int .i64 ss) ∧ w'.cell? ⟨ga, oa + j * 6 + 4, none⟩ = some (.int .i64 en) ∧ w'.cell? ⟨ga, oa + j * 6 + 5, none⟩ = some (.int .i64 la) ∧ w'.cell? ⟨gb, ob + j * 6, none⟩ = some (.int .i64 st) ∧ w'.cell? ⟨gb, ob + j * 6 + 1, none⟩ = some (.int .i64 pc) ∧ w'.cell? ⟨gb, ob + j * 6 + 2, none⟩ = some (.slice bb m cb) ∧ w'.cell? ⟨gb, ob + j * 6 + 3, none⟩ = some (.int .i64 ss) ∧ w'.cell? ⟨gb, ob + j * 6 + 4, none⟩ = some (.int .i64 en) ∧ w'.cell? ⟨gb, ob + j * 6 + 5, none⟩ = some (.int .i64 la) ∧ Below w.heap.size w w') (first | (refine keepQ (by assumption) ?_; assumption) | (with_reducible exact drewQ HC.out)) (first | (go_at_call 72; refine (eqPt st pc ss en la ba bb sk m ca cb HM.out hsz _ (RA.out.keep (belQ (by assumption)) (Nat.le_refl _)) (RB.out.keep (belQ (by assumption)) (Nat.le_refl _))).mono ?_; rintro e w2 ⟨rfl, hb2⟩))
        rename_i HH
        have HW2 : Hid (Below w.heap.size w w2) := HH.2.2.2.2.2.2.2.2.2.2.2.2
        clear HH hb2 HC HW RA RB HM hsz
        go_wp2
        go_roundg (gk - 1)
        case measure => omega
        case rel => exact ⟨j + 1, by omega, by go_num, HW2⟩
      · go_wp2
        go_ret
        exact ⟨rfl, HW.out⟩
  · obtain rfl : n = 0 := by omega
    clear ha hb
    go_enter Tryz.func30, Tryz.ntmps30
    go_wp2
    go_rounds 1
    go_ret
    exact ⟨rfl, Below.refl _ _⟩
theorem openP_ints : Tryz.prog.cellsOf 36 = 1 := by kernel_rfl
def wfP (p : PX) : Prop := (Lit.int .i64 p.st).wf = true ∧ (Lit.int .i64 p.pc).wf = true ∧ (Lit.int .i64 p.ss).wf = true ∧ (Lit.int .i64 p.en).wf = true ∧ (Lit.int .i64 p.la).wf = true
end Go.Proofs.YtphijlknefgkiaaGreatDoor
