/-
  Parts of a kernel: six cells each, one of them a list of numbers of its own.
-/
import Derived.Test.YtfdhcchakoldpaaKInt
import Derived.Test.YtfdhcchakoldpaaEnt
namespace Go.Proofs.Ytfdhcchakoldpaa
open Go.ChangeShapes Go.WideShapes Go.ChangeAt Go.RowKit Go.PlainAid
set_option linter.unusedVariables false

abbrev PV := Value × Value × Value × Value × Value × Value
def parV : List PV → List Value
  | [] => []
  | r :: t => r.1 :: r.2.1 :: r.2.2.1 :: r.2.2.2.1 :: r.2.2.2.2.1 :: r.2.2.2.2.2 :: parV t
theorem parV_len : ∀ l : List PV, (parV l).length = l.length * 6
  | [] => rfl
  | r :: t => by simp [parV, parV_len t]; omega
theorem parV_append : ∀ x y : List PV, parV (x ++ y) = parV x ++ parV y
  | [], y => rfl
  | r :: t, y => by simp [parV, parV_append t y]
theorem parV_at : ∀ (l : List PV) (j : Nat) (h : j < l.length), (parV l)[j * 6]? = some (l[j].1) ∧ (parV l)[j * 6 + 1]? = some (l[j].2.1) ∧ (parV l)[j * 6 + 2]? = some (l[j].2.2.1) ∧ (parV l)[j * 6 + 3]? = some (l[j].2.2.2.1) ∧ (parV l)[j * 6 + 4]? = some (l[j].2.2.2.2.1) ∧ (parV l)[j * 6 + 5]? = some (l[j].2.2.2.2.2)
  | [], j, h => by simp at h
  | r :: t, 0, h => by simp [parV]
  | r :: t, j + 1, h => by
    have := parV_at t j (by simpa using h)
    rw [show (j + 1) * 6 = j * 6 + 1 + 1 + 1 + 1 + 1 + 1 by omega, show j * 6 + 1 + 1 + 1 + 1 + 1 + 1 + 2 = j * 6 + 2 + 1 + 1 + 1 + 1 + 1 + 1 by omega, show j * 6 + 1 + 1 + 1 + 1 + 1 + 1 + 3 = j * 6 + 3 + 1 + 1 + 1 + 1 + 1 + 1 by omega, show j * 6 + 1 + 1 + 1 + 1 + 1 + 1 + 4 = j * 6 + 4 + 1 + 1 + 1 + 1 + 1 + 1 by omega, show j * 6 + 1 + 1 + 1 + 1 + 1 + 1 + 5 = j * 6 + 5 + 1 + 1 + 1 + 1 + 1 + 1 by omega]
    simpa [parV] using this
theorem parV_set : ∀ (l : List PV) (j : Nat) (x y z u v a : Value), ((((((parV l).set (j * 6) (x)).set (j * 6 + 1) (y)).set (j * 6 + 2) (z)).set (j * 6 + 3) (u)).set (j * 6 + 4) (v)).set (j * 6 + 5) (a) = parV (l.set j (x, y, z, u, v, a))
  | [], j, x, y, z, u, v, a => by simp [parV]
  | r :: l, 0, x, y, z, u, v, a => by simp [parV]
  | r :: l, j + 1, x, y, z, u, v, a => by
    have := parV_set l j x y z u v a
    rw [show (j + 1) * 6 = j * 6 + 1 + 1 + 1 + 1 + 1 + 1 by omega, show j * 6 + 1 + 1 + 1 + 1 + 1 + 1 + 2 = j * 6 + 2 + 1 + 1 + 1 + 1 + 1 + 1 by omega, show j * 6 + 1 + 1 + 1 + 1 + 1 + 1 + 3 = j * 6 + 3 + 1 + 1 + 1 + 1 + 1 + 1 by omega, show j * 6 + 1 + 1 + 1 + 1 + 1 + 1 + 4 = j * 6 + 4 + 1 + 1 + 1 + 1 + 1 + 1 by omega, show j * 6 + 1 + 1 + 1 + 1 + 1 + 1 + 5 = j * 6 + 5 + 1 + 1 + 1 + 1 + 1 + 1 by omega]
    simpa [parV] using this
/-- a block that is such a list, whole -/
def RowQ (w : World) (g : Nat) (l : List PV) : Prop := w.heap[g]? = some (.cells (parV l).toArray 100 (0, 0))
theorem RowQ.lt {w : World} {g : Nat} {l : List PV} (h : RowQ w g l) : g < w.heap.size := row_lt h
theorem RowQ.on {w w' : World} {g : Nat} {l : List PV} (h : RowQ w g l) (hb : Below w.heap.size w w') : RowQ w' g l := row_after h hb (row_lt h)
theorem RowQ.cell {w : World} {g : Nat} {l : List PV} (h : RowQ w g l) (j : Nat) (hj : j < l.length) : w.cell? ⟨g, j * 6, none⟩ = some (l[j].1) ∧ w.cell? ⟨g, j * 6 + 1, none⟩ = some (l[j].2.1) ∧ w.cell? ⟨g, j * 6 + 2, none⟩ = some (l[j].2.2.1) ∧ w.cell? ⟨g, j * 6 + 3, none⟩ = some (l[j].2.2.2.1) ∧ w.cell? ⟨g, j * 6 + 4, none⟩ = some (l[j].2.2.2.2.1) ∧ w.cell? ⟨g, j * 6 + 5, none⟩ = some (l[j].2.2.2.2.2) := by
  have := parV_at l j hj
  rw [cell_of_row w g (j * 6) _ _ (0, 0) h, cell_of_row w g (j * 6 + 1) _ _ (0, 0) h, cell_of_row w g (j * 6 + 2) _ _ (0, 0) h, cell_of_row w g (j * 6 + 3) _ _ (0, 0) h, cell_of_row w g (j * 6 + 4) _ _ (0, 0) h, cell_of_row w g (j * 6 + 5) _ _ (0, 0) h]
  simpa using this
theorem RowQ.free {w : World} {g : Nat} {l : List PV} (h : RowQ w g l) (j : Nat) : w.frozen? ⟨g, j, none⟩ = false := frozen_of_row w g j _ _ h
theorem RowQ.set {w : World} {g : Nat} {l : List PV} (h : RowQ w g l) (j : Nat) (x y z u v a : Value) : RowQ ((((((w.setCell ⟨g, j * 6, none⟩ (x)).setCell ⟨g, j * 6 + 1, none⟩ (y)).setCell ⟨g, j * 6 + 2, none⟩ (z)).setCell ⟨g, j * 6 + 3, none⟩ (u)).setCell ⟨g, j * 6 + 4, none⟩ (v)).setCell ⟨g, j * 6 + 5, none⟩ (a)) g (l.set j (x, y, z, u, v, a)) := by
  unfold RowQ at h ⊢
  have h1 := heap_setCell_same w g (j * 6) _ _ (x) h
  have h2 := heap_setCell_same _ g (j * 6 + 1) _ _ (y) h1
  have h3 := heap_setCell_same _ g (j * 6 + 2) _ _ (z) h2
  have h4 := heap_setCell_same _ g (j * 6 + 3) _ _ (u) h3
  have h5 := heap_setCell_same _ g (j * 6 + 4) _ _ (v) h4
  rw [heap_setCell_same _ g (j * 6 + 5) _ _ (a) h5, ← parV_set]
  simp
def zeroP : PV := (.int .i64 0, .int .i64 0, .slice none 0 0, .int .i64 0, .int .i64 0, .int .i64 0)
theorem infoQ : (Try.prog.info? 100).map (fun i => (i.zero, i.size, i.bytes)) = some (some (.agg #[.int .i64 0, .int .i64 0, .slice none 0 0, .int .i64 0, .int .i64 0, .int .i64 0]), 6, 64) := by kernel_rfl
theorem parV_zero (n : Nat) : madeCells #[.int .i64 0, .int .i64 0, .slice none 0 0, .int .i64 0, .int .i64 0, .int .i64 0] (n * 6) = (parV (List.replicate n zeroP)).toArray := by
  apply Array.ext
  · simp [madeCells, parV_len]
  · intro j h1 h2
    have hj : j < n * 6 := by simpa [madeCells] using h1
    have h0 : j / 6 < n := by omega
    have hr := parV_at (List.replicate n zeroP) (j / 6) (by simpa using h0)
    have h3 : j % 6 = 0 ∨ j % 6 = 1 ∨ j % 6 = 2 ∨ j % 6 = 3 ∨ j % 6 = 4 ∨ j % 6 = 5 := by omega
    have hj2 : j < (parV (List.replicate n zeroP)).length := by simpa using h2
    rcases h3 with e | e | e | e | e | e
    · have hz := hr.1
      rw [show j / 6 * 6 = j by omega, List.getElem?_eq_getElem hj2] at hz
      have hl : (madeCells #[.int .i64 0, .int .i64 0, .slice none 0 0, .int .i64 0, .int .i64 0, .int .i64 0] (n * 6))[j] = .int .i64 0 := by simp [madeCells, e]
      rw [hl]
      simpa [zeroP] using (Option.some.inj hz).symm
    · have hz := hr.2.1
      rw [show j / 6 * 6 + 1 = j by omega, List.getElem?_eq_getElem hj2] at hz
      have hl : (madeCells #[.int .i64 0, .int .i64 0, .slice none 0 0, .int .i64 0, .int .i64 0, .int .i64 0] (n * 6))[j] = .int .i64 0 := by simp [madeCells, e]
      rw [hl]
      simpa [zeroP] using (Option.some.inj hz).symm
    · have hz := hr.2.2.1
      rw [show j / 6 * 6 + 2 = j by omega, List.getElem?_eq_getElem hj2] at hz
      have hl : (madeCells #[.int .i64 0, .int .i64 0, .slice none 0 0, .int .i64 0, .int .i64 0, .int .i64 0] (n * 6))[j] = .slice none 0 0 := by simp [madeCells, e]
      rw [hl]
      simpa [zeroP] using (Option.some.inj hz).symm
    · have hz := hr.2.2.2.1
      rw [show j / 6 * 6 + 3 = j by omega, List.getElem?_eq_getElem hj2] at hz
      have hl : (madeCells #[.int .i64 0, .int .i64 0, .slice none 0 0, .int .i64 0, .int .i64 0, .int .i64 0] (n * 6))[j] = .int .i64 0 := by simp [madeCells, e]
      rw [hl]
      simpa [zeroP] using (Option.some.inj hz).symm
    · have hz := hr.2.2.2.2.1
      rw [show j / 6 * 6 + 4 = j by omega, List.getElem?_eq_getElem hj2] at hz
      have hl : (madeCells #[.int .i64 0, .int .i64 0, .slice none 0 0, .int .i64 0, .int .i64 0, .int .i64 0] (n * 6))[j] = .int .i64 0 := by simp [madeCells, e]
      rw [hl]
      simpa [zeroP] using (Option.some.inj hz).symm
    · have hz := hr.2.2.2.2.2
      rw [show j / 6 * 6 + 5 = j by omega, List.getElem?_eq_getElem hj2] at hz
      have hl : (madeCells #[.int .i64 0, .int .i64 0, .slice none 0 0, .int .i64 0, .int .i64 0, .int .i64 0] (n * 6))[j] = .int .i64 0 := by simp [madeCells, e]
      rw [hl]
      simpa [zeroP] using (Option.some.inj hz).symm
theorem makeQ (n : Nat) (hn : n ≤ 1048576) (w : World) : (Instr.makeSlice 34 (.int .i64 n) (.int .i64 n)).run Try.prog w = .ok (.slice (some ⟨w.heap.size, 0, none⟩) n n) (w.alloc (.cells (parV (List.replicate n zeroP)).toArray 100)) := by
  obtain ⟨i0, hi, hz0, hz1, hz2⟩ := info_parts infoQ
  have h := run_make (P := Try.prog) w 34 100 i0 _ Try.underlying34 hi hz0 .i64 .i64 n n (by omega) (Int.le_refl _) (by rw [hz2]; omega) (by omega)
  rw [hz1, Int.toNat_natCast, show (Value.agg #[.int .i64 0, .int .i64 0, .slice none 0 0, .int .i64 0, .int .i64 0, .int .i64 0]).cells = #[.int .i64 0, .int .i64 0, .slice none 0 0, .int .i64 0, .int .i64 0, .int .i64 0] from rfl, parV_zero] at h
  exact h
/-- a part: its numbers, and what its stack holds -/
structure PX where
  st : Int
  pc : Int
  sk : List Int
  ss : Int
  en : Int
  la : Int
def pvOf (p : PX) (b : Option Addr) (c : Nat) : PV := (.int .i64 p.st, .int .i64 p.pc, .slice b p.sk.length c, .int .i64 p.ss, .int .i64 p.en, .int .i64 p.la)
/-- the six cells of a part at a place, its stack read -/
def CelP (w : World) (g o : Nat) (p : PX) : Prop := w.cell? ⟨g, o, none⟩ = some (.int .i64 p.st) ∧ w.cell? ⟨g, o + 1, none⟩ = some (.int .i64 p.pc) ∧ (∃ b c, w.cell? ⟨g, o + 2, none⟩ = some (.slice b p.sk.length c) ∧ p.sk.length ≤ c ∧ Rd w b p.sk) ∧ w.cell? ⟨g, o + 3, none⟩ = some (.int .i64 p.ss) ∧ w.cell? ⟨g, o + 4, none⟩ = some (.int .i64 p.en) ∧ w.cell? ⟨g, o + 5, none⟩ = some (.int .i64 p.la)
theorem CelP.keep {w w' : World} {g o B : Nat} {p : PX} (h : CelP w g o p) (hb : Below B w w') (hB : w.heap.size ≤ B) : CelP w' g o p := by
  obtain ⟨h0, h1, ⟨b, c, h2, hc, hr⟩, h3, h4, h5⟩ := h
  have hg : g < B := Nat.lt_of_lt_of_le (World.block_lt_of_cell? w ⟨g, o, none⟩ h0) hB
  exact ⟨(hb.cell (p := ⟨g, o, none⟩) hg).trans h0, (hb.cell (p := ⟨g, o + 1, none⟩) hg).trans h1, ⟨b, c, (hb.cell (p := ⟨g, o + 2, none⟩) hg).trans h2, hc, hr.keep hb hB⟩, (hb.cell (p := ⟨g, o + 3, none⟩) hg).trans h3, (hb.cell (p := ⟨g, o + 4, none⟩) hg).trans h4, (hb.cell (p := ⟨g, o + 5, none⟩) hg).trans h5⟩
/-- a list of parts that is read -/
def RdP (w : World) (a : Option Addr) (l : List PX) : Prop := 0 < l.length → ∃ g off, a = some ⟨g, off, none⟩ ∧ ∀ j (h : j < l.length), CelP w g (off + j * 6) l[j]
theorem RdP.keep {w w' : World} {a : Option Addr} {l : List PX} {B : Nat} (h : RdP w a l) (hb : Below B w w') (hB : w.heap.size ≤ B) : RdP w' a l := fun h0 => by
  obtain ⟨g, off, e, hc⟩ := h h0
  exact ⟨g, off, e, fun j hj => (hc j hj).keep hb hB⟩
theorem RdP.on {w w' : World} {a : Option Addr} {l : List PX} (h : RdP w a l) (hb : Below w.heap.size w w') : RdP w' a l := h.keep hb (Nat.le_refl _)
/-- the two worlds have the same blocks from lo on -/
def Agr (lo : Nat) (w w' : World) : Prop := ∀ g, lo ≤ g → g < w.heap.size → w'.heap[g]? = w.heap[g]?
theorem agr_below {w w' : World} (lo : Nat) (hb : Below w.heap.size w w') : Agr lo w w' := fun g _ h => hb.block g h
theorem agr_set {w : World} {lo k i : Nat} {x : Value} (hk : k < lo) : Agr lo w (w.setCell ⟨k, i, none⟩ x) := fun g h _ => Below.heap_setCell _ _ _ _ (show g ≠ k by omega)
theorem agr_row {lo : Nat} {w w' : World} {g : Nat} {o : Obj} (ha : Agr lo w w') (hg : lo ≤ g) (h : w.heap[g]? = some o) : w'.heap[g]? = some o := (ha g hg (row_lt h)).trans h
/-- parts that were made anew, from block lo on -/
structure OwnP (w : World) (lo : Nat) (a : Option Addr) (l : List PX) : Prop where
  ex : ∃ (g : Nat) (b : Nat → Nat) (v : List PV), a = some ⟨g, 0, none⟩ ∧ lo ≤ g ∧ RowQ w g v ∧ v.length = l.length ∧ ∀ j (h : j < l.length) (h' : j < v.length), v[j] = pvOf l[j] (some ⟨b j, 0, none⟩) l[j].sk.length ∧ lo ≤ b j ∧ RowAt w (b j) l[j].sk
theorem OwnP.agree {w w' : World} {lo : Nat} {a : Option Addr} {l : List PX} (h : OwnP w lo a l) (ha : Agr lo w w') : OwnP w' lo a l := by
  obtain ⟨g, b, v, e, hg, hr, hl, hc⟩ := h.ex
  exact ⟨g, b, v, e, hg, agr_row ha hg hr, hl, fun j h h' => ⟨(hc j h h').1, (hc j h h').2.1, agr_row ha (hc j h h').2.1 (hc j h h').2.2⟩⟩
theorem OwnP.less {w : World} {lo lo' : Nat} {a : Option Addr} {l : List PX} (h : OwnP w lo a l) (hl' : lo' ≤ lo) : OwnP w lo' a l := by
  obtain ⟨g, b, v, e, hg, hr, hl, hc⟩ := h.ex
  exact ⟨g, b, v, e, Nat.le_trans hl' hg, hr, hl, fun j h h' => ⟨(hc j h h').1, Nat.le_trans hl' (hc j h h').2.1, (hc j h h').2.2⟩⟩
theorem celP_of {w : World} {g j : Nat} {v : List PV} {p : PX} {b : Nat} (hr : RowQ w g v) (hj : j < v.length) (hv : v[j] = pvOf p (some ⟨b, 0, none⟩) p.sk.length) (hb : RowAt w b p.sk) : CelP w g (j * 6) p := by
  have h := hr.cell j hj
  rw [hv] at h
  exact ⟨h.1, h.2.1, ⟨_, _, h.2.2.1, Nat.le_refl _, hb.rd⟩, h.2.2.2.1, h.2.2.2.2.1, h.2.2.2.2.2⟩
theorem OwnP.rd {w : World} {lo : Nat} {a : Option Addr} {l : List PX} (h : OwnP w lo a l) : RdP w a l := fun _ => by
  obtain ⟨g, b, v, e, hg, hr, hl, hc⟩ := h.ex
  refine ⟨g, 0, e, fun j hj => ?_⟩
  obtain ⟨h1, _, h3⟩ := hc j hj (by omega)
  rw [Nat.zero_add]
  exact celP_of hr _ h1 h3
end Go.Proofs.Ytfdhcchakoldpaa
