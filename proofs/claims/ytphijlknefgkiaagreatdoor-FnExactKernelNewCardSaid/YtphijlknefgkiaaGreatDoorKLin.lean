/-
  Lines of a kernel: in memory, copied, compared, sized, as they came in.
-/
import Derived.Test.YtphijlknefgkiaaGreatDoorKPaG
import Derived.Test.YtphijlknefgkiaaGreatDoorOwnMsP
namespace Go.Proofs.YtphijlknefgkiaaGreatDoor
open Go.ChangeShapes Go.WideShapes Go.ChangeAt Go.RowKit Go.PlainAid
set_option linter.unusedVariables false

abbrev MsgL := List (Int × Int)
theorem eqL (a b : Option Addr) (l : List (Int × Int)) (n ca cb : Nat) (hl : l.length = n) (hn : n ≤ 1048576) (w : World) (ha : P.RdR w a l) (hb : P.RdR w b l) :
    Calls Tryz.prog 73 #[.agg #[.slice a n ca], .agg #[.slice b n cb]] w fun e w' => e = .returned (.bool true) ∧ Below w.heap.size w w' := by
  have HB : Hid (Below w.heap.size w ((w.alloc (.cells #[.slice a n ca] 127)).alloc (.cells #[.slice b n cb] 127))) := al2_b w _ _
  have HRa : Hid (P.RdR _ _ _) := ha.keep HB.out (Nat.le_refl _)
  have HRb : Hid (P.RdR _ _ _) := hb.keep HB.out (Nat.le_refl _)
  have HL : Hid (l.length = n) := hl
  clear ha hb hl
  go_enter Tryz.func73, Tryz.ntmps73
  go_wp2_with fail
  refine (P.eqIn a b l n ca cb HL.out hn _ HRa.out HRb.out).mono ?_
  rintro e w1 ⟨rfl, hb1⟩
  have HW : Hid (Below w.heap.size w w1) := HB.out.trans (hb1.mono HB.out.size)
  clear hb1
  go_wp2
  go_ret
  exact ⟨rfl, HW.out⟩
def RowV (w : World) (g : Nat) (v : List Value) : Prop := w.heap[g]? = some (.cells v.toArray 127 (0, 0))
theorem RowV.lt {w : World} {g : Nat} {v : List Value} (h : RowV w g v) : g < w.heap.size := row_lt h
theorem RowV.on {w w' : World} {g : Nat} {v : List Value} (h : RowV w g v) (hb : Below w.heap.size w w') : RowV w' g v := row_after h hb (row_lt h)
theorem RowV.cell {w : World} {g : Nat} {v : List Value} (h : RowV w g v) (j : Nat) (hj : j < v.length) : w.cell? ⟨g, j, none⟩ = some v[j] := by
  rw [cell_of_row w g j _ _ (0, 0) h]
  simp [hj]
theorem RowV.free {w : World} {g : Nat} {v : List Value} (h : RowV w g v) (j : Nat) : w.frozen? ⟨g, j, none⟩ = false := frozen_of_row w g j _ _ h
theorem RowV.set {w : World} {g : Nat} {v : List Value} (h : RowV w g v) (j : Nat) (x : Value) : RowV (w.setCell ⟨g, j, none⟩ x) g (v.set j x) := by
  unfold RowV at h ⊢
  rw [heap_setCell_same w g j _ _ x h]
  simp
theorem infoV : (Tryz.prog.info? 127).map (fun i => (i.zero, i.size, i.bytes)) = some (some (.agg #[.slice none 0 0]), 1, 24) := by kernel_rfl
theorem linV_zero (n : Nat) : madeCells #[.slice none 0 0] (n * 1) = (List.replicate n (Value.slice none 0 0)).toArray := by
  apply Array.ext
  · simp [madeCells]
  · intro j h1 h2
    simp [madeCells, Nat.mod_one]
theorem makeV (n : Nat) (hn : n ≤ 1048576) (w : World) : (Instr.makeSlice 40 (.int .i64 n) (.int .i64 n)).run Tryz.prog w = .ok (.slice (some ⟨w.heap.size, 0, none⟩) n n) (w.alloc (.cells (List.replicate n (Value.slice none 0 0)).toArray 127)) := by
  obtain ⟨i0, hi, hz0, hz1, hz2⟩ := info_parts infoV
  have h := run_make (P := Tryz.prog) w 40 127 i0 _ Tryz.underlying40 hi hz0 .i64 .i64 n n (by omega) (Int.le_refl _) (by rw [hz2]; omega) (by omega)
  rw [hz1, Int.toNat_natCast, show (Value.agg #[.slice none 0 0]).cells = #[.slice none 0 0] from rfl, linV_zero] at h
  exact h
/-- a line at a place, read -/
def CelL (w : World) (g o : Nat) (l : MsgL) : Prop := ∃ b c, w.cell? ⟨g, o, none⟩ = some (.slice b l.length c) ∧ l.length ≤ c ∧ P.RdR w b l
theorem CelL.keep {w w' : World} {g o B : Nat} {l : MsgL} (h : CelL w g o l) (hb : Below B w w') (hB : w.heap.size ≤ B) : CelL w' g o l := by
  obtain ⟨b, c, h2, hc, hr⟩ := h
  have hg : g < B := Nat.lt_of_lt_of_le (World.block_lt_of_cell? w ⟨g, o, none⟩ h2) hB
  exact ⟨b, c, (hb.cell (p := ⟨g, o, none⟩) hg).trans h2, hc, hr.keep hb hB⟩
def RdL (w : World) (a : Option Addr) (l : List MsgL) : Prop := 0 < l.length → ∃ g off, a = some ⟨g, off, none⟩ ∧ ∀ j (h : j < l.length), CelL w g (off + j) l[j]
theorem RdL.keep {w w' : World} {a : Option Addr} {l : List MsgL} {B : Nat} (h : RdL w a l) (hb : Below B w w') (hB : w.heap.size ≤ B) : RdL w' a l := fun h0 => by
  obtain ⟨g, off, e, hc⟩ := h h0
  exact ⟨g, off, e, fun j hj => (hc j hj).keep hb hB⟩
theorem RdL.on {w w' : World} {a : Option Addr} {l : List MsgL} (h : RdL w a l) (hb : Below w.heap.size w w') : RdL w' a l := h.keep hb (Nat.le_refl _)
/-- lines that were made anew, from block lo on -/
structure OwnL (w : World) (lo : Nat) (a : Option Addr) (l : List MsgL) : Prop where
  ex : ∃ (g : Nat) (b : Nat → Nat) (v : List Value), a = some ⟨g, 0, none⟩ ∧ lo ≤ g ∧ RowV w g v ∧ v.length = l.length ∧ ∀ j (h : j < l.length) (h' : j < v.length), v[j] = .slice (some ⟨b j, 0, none⟩) l[j].length l[j].length ∧ lo ≤ b j ∧ P.RowR w (b j) l[j]
theorem OwnL.agree {w w' : World} {lo : Nat} {a : Option Addr} {l : List MsgL} (h : OwnL w lo a l) (ha : Agr lo w w') : OwnL w' lo a l := by
  obtain ⟨g, b, v, e, hg, hr, hl, hc⟩ := h.ex
  exact ⟨g, b, v, e, hg, agr_row ha hg hr, hl, fun j h h' => ⟨(hc j h h').1, (hc j h h').2.1, agr_row ha (hc j h h').2.1 (hc j h h').2.2⟩⟩
theorem OwnL.less {w : World} {lo lo' : Nat} {a : Option Addr} {l : List MsgL} (h : OwnL w lo a l) (hl' : lo' ≤ lo) : OwnL w lo' a l := by
  obtain ⟨g, b, v, e, hg, hr, hl, hc⟩ := h.ex
  exact ⟨g, b, v, e, Nat.le_trans hl' hg, hr, hl, fun j h h' => ⟨(hc j h h').1, Nat.le_trans hl' (hc j h h').2.1, (hc j h h').2.2⟩⟩
theorem OwnL.rd {w : World} {lo : Nat} {a : Option Addr} {l : List MsgL} (h : OwnL w lo a l) : RdL w a l := fun _ => by
  obtain ⟨g, b, v, e, hg, hr, hl, hc⟩ := h.ex
  refine ⟨g, 0, e, fun j hj => ?_⟩
  obtain ⟨h1, _, h3⟩ := hc j hj (by omega)
  have h4 := hr.cell j (by omega)
  rw [h1] at h4
  rw [Nat.zero_add]
  exact ⟨_, _, h4, Nat.le_refl _, h3.rd⟩
def valsL (l : List MsgL) (b : Nat → Nat) (n j : Nat) : List Value := (List.range n).map fun i => if h : i < j ∧ i < l.length then .slice (some ⟨b i, 0, none⟩) (l[i]'h.2).length (l[i]'h.2).length else .slice none 0 0
theorem valsL_len (l : List MsgL) (b : Nat → Nat) (n j : Nat) : (valsL l b n j).length = n := by simp [valsL]
theorem valsL_zero (l : List MsgL) (b : Nat → Nat) (n : Nat) : valsL l b n 0 = List.replicate n (Value.slice none 0 0) := by
  apply List.ext_getElem
  · simp [valsL]
  · intro i h1 h2
    simp [valsL]
theorem valsL_set (l : List MsgL) (b : Nat → Nat) (n j g : Nat) (hl : l.length = n) (hj : j < n) (hj' : j < l.length) : (valsL l b n j).set j (.slice (some ⟨g, 0, none⟩) l[j].length l[j].length) = valsL l (fun i => if i = j then g else b i) n (j + 1) := by
  apply List.ext_getElem
  · simp [valsL]
  · intro i h1 h2
    have hi : i < n := by simpa [valsL] using h2
    rw [List.getElem_set]
    by_cases e : j = i
    · subst e
      simp [valsL, hj']
    · have e' : i ≠ j := fun h => e h.symm
      have hlt : i < j + 1 ↔ i < j := by omega
      simp [valsL, e, e', hlt]
theorem valsL_at (l : List MsgL) (b : Nat → Nat) (n : Nat) (hl : l.length = n) (j : Nat) (h : j < l.length) (h' : j < (valsL l b n n).length) : (valsL l b n n)[j] = .slice (some ⟨b j, 0, none⟩) l[j].length l[j].length := by
  have hj : j < n := by omega
  simp [valsL, hj, h]
structure UpL (w wr : World) (g : Nat) (l : List MsgL) (n j : Nat) : Prop where
  ex : ∃ b : Nat → Nat, RowV wr g (valsL l b n j) ∧ ∀ i (h : i < l.length), i < j → g < b i ∧ P.RowR wr (b i) l[i]
  bel : Below w.heap.size w wr
theorem UpL.own {w wr : World} {g : Nat} {l : List MsgL} {n : Nat} (h : UpL w wr g l n n) (hl : l.length = n) : OwnL wr g (some ⟨g, 0, none⟩) l := by
  obtain ⟨b, hr, hb⟩ := h.ex
  exact ⟨g, b, _, rfl, Nat.le_refl _, hr, by rw [valsL_len, hl], fun j h h' => ⟨valsL_at l b n hl j h h', Nat.le_of_lt (hb j h (by omega)).1, (hb j h (by omega)).2⟩⟩
theorem UpL.step {w wr w1 : World} {g g1 m : Nat} {l : List MsgL} {n j : Nat} {sk : MsgL} (h : UpL w wr g l n j) (hw : w.heap.size ≤ g) (hl : l.length = n) (hj : j < n) (hj' : j < l.length) (hp : sk = l[j]) (hm : sk.length = m) (hb : Below wr.heap.size wr w1) (hg : wr.heap.size ≤ g1) (hrow : P.RowR w1 g1 sk) :
    UpL w (w1.setCell ⟨g, j, none⟩ (.slice (some ⟨g1, 0, none⟩) m m)) g l n (j + 1) := by
  obtain ⟨b, hr, hbb⟩ := h.ex
  have hgl : g < wr.heap.size := hr.lt
  have hr1 : RowV w1 g (valsL l b n j) := hr.on hb
  have hs := hr1.set j (.slice (some ⟨g1, 0, none⟩) m m)
  subst hm
  subst hp
  rw [valsL_set l b n j g1 hl hj hj'] at hs
  refine ⟨⟨_, hs, fun i hi hij => ?_⟩, ?_⟩
  · by_cases e : i = j
    · subst e
      simp only [if_true]
      refine ⟨by omega, ?_⟩
      unfold P.RowR
      rw [Below.heap_setCell _ _ _ _ (show g1 ≠ g by omega)]
      exact hrow
    · simp only [e, if_false]
      obtain ⟨h1, h2⟩ := hbb i hi (by omega)
      refine ⟨h1, ?_⟩
      have h3 := P.RowR.on h2 hb
      unfold P.RowR at h3 ⊢
      rw [Below.heap_setCell _ _ _ _ (show b i ≠ g by omega)]
      exact h3
  · exact (bel_on (Nat.le_refl _) h.bel hb).setCell hw _
theorem keepL2 {w W W' : World} {ga oa gb ob : Nat} {x y : Value} (hb : Below W.heap.size W W') (h : W.cell? ⟨ga, oa, none⟩ = some x ∧ W.cell? ⟨gb, ob, none⟩ = some y ∧ Below w.heap.size w W) : W'.cell? ⟨ga, oa, none⟩ = some x ∧ W'.cell? ⟨gb, ob, none⟩ = some y ∧ Below w.heap.size w W' :=
  ⟨cell_on h.1 hb, cell_on h.2.1 hb, bel_on (Nat.le_refl _) h.2.2 hb⟩
theorem belL2 {w W : World} {P0 P1 : Prop} (h : P0 ∧ P1 ∧ Below w.heap.size w W) : Below w.heap.size w W := h.2.2
theorem drewL2 {w W : World} {ga oa gb ob : Nat} {x y : Value} (h : W.cell? ⟨ga, oa, none⟩ = some x ∧ W.cell? ⟨gb, ob, none⟩ = some y ∧ Below w.heap.size w W) : W.drew.cell? ⟨ga, oa, none⟩ = some x ∧ W.drew.cell? ⟨gb, ob, none⟩ = some y ∧ Below w.heap.size w W.drew := ⟨h.1, h.2.1, h.2.2.drew⟩
set_option maxRecDepth 100000 in
set_option maxHeartbeats 2000000 in
theorem eqLs (a b : Option Addr) (l : List MsgL) (n ca' cb' : Nat) (hl : l.length = n) (hn : n ≤ 1048576) (hs : ∀ j (h : j < l.length), l[j].length ≤ 1048576) (w : World) (ha : RdL w a l) (hb : RdL w b l) :
    Calls Tryz.prog 31 #[.slice a n ca', .slice b n cb'] w fun e w' => e = .returned (.bool true) ∧ Below w.heap.size w w' := by
  have HL : Hid (l.length = n) := hl
  have HS : Hid (∀ j (h : j < l.length), l[j].length ≤ 1048576) := hs
  clear hl hs
  by_cases hp : 0 < n
  · obtain ⟨ga, oa, rfl, hca⟩ := ha (by have := HL.out; omega)
    obtain ⟨gb, ob, rfl, hcb⟩ := hb (by have := HL.out; omega)
    have HA : Hid (∀ j (h : j < l.length), CelL w ga (oa + j) l[j]) := hca
    have HB : Hid (∀ j (h : j < l.length), CelL w gb (ob + j) l[j]) := hcb
    clear ha hb hca hcb
    go_enter Tryz.func31, Tryz.ntmps31
    go_wp2
    go_loopg [5] n (fun gk i wr => ∃ j : Nat, j + gk = n ∧ i = .int .i64 j ∧ Hid (Below w.heap.size w wr))
    case atStart => exact ⟨0, by omega, rfl, Below.refl _ _⟩
    case round =>
      obtain ⟨j, hj, rfl, HW⟩ := hrel
      by_cases hlt : j < n
      · have hjl : j < l.length := by have := HL.out; omega
        have hsz := HS.out j hjl
        have c := HA.out j hjl
        have d := HB.out j hjl
        obtain ⟨sk, hP⟩ : ∃ P, P = l[j] := ⟨_, rfl⟩
        rw [← hP] at c d hsz
        clear hP
        obtain ⟨ba, ca, c2, _, ra⟩ := c
        obtain ⟨bb, cb, d2, _, rb⟩ := d
        obtain ⟨m, hm⟩ : ∃ m, sk.length = m := ⟨_, rfl⟩
        rw [hm] at c2 d2 hsz
        have HM : Hid (sk.length = m) := hm
        have RA : Hid (P.RdR w ba sk) := ra
        have RB : Hid (P.RdR w bb sk) := rb
        have HC : Hid (wr.cell? ⟨ga, oa + j, none⟩ = some (.slice ba m ca) ∧ wr.cell? ⟨gb, ob + j, none⟩ = some (.slice bb m cb) ∧ Below w.heap.size w wr) := keepL2 HW.out ⟨c2, d2, Below.refl _ _⟩
        clear c2 d2 ra rb hm hjl
        have i0 : (0 : Int) ≤ (j : Int) := by omega
        have i1 : (j : Int) < (n : Int) := by omega
        go_wp2
        go_region_held3 (fun w' => w'.cell? ⟨ga, oa + j, none⟩ = some (.slice ba m ca) ∧ w'.cell? ⟨gb, ob + j, none⟩ = some (.slice bb m cb) ∧ Below w.heap.size w w') (first | (refine keepL2 (by assumption) ?_; assumption) | (with_reducible exact drewL2 HC.out)) (first | (go_at_call 73; refine (eqL ba bb sk m ca cb HM.out hsz _ (RA.out.keep (belL2 (by assumption)) (Nat.le_refl _)) (RB.out.keep (belL2 (by assumption)) (Nat.le_refl _))).mono ?_; rintro e w2 ⟨rfl, hb2⟩))
        rename_i HH
        have HW2 : Hid (Below w.heap.size w w2) := HH.2.2
        clear HH hb2 HC HW RA RB HM hsz
        go_wp2
        go_roundg (gk - 1)
        case measure => omega
        case rel => exact ⟨j + 1, by omega, by go_num, HW2⟩
      · go_wp2
        go_ret
        exact ⟨rfl, HW.out⟩
  · obtain rfl : n = 0 := by omega
    clear ha hb
    go_enter Tryz.func31, Tryz.ntmps31
    go_wp2
    go_rounds 1
    go_ret
    exact ⟨rfl, Below.refl _ _⟩
end Go.Proofs.YtphijlknefgkiaaGreatDoor
