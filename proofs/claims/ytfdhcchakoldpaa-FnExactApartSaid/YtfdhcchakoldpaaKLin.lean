/-
  Lines of a kernel: in memory, copied, compared, sized, as they came in.
-/
import Derived.Test.YtfdhcchakoldpaaKPaG
import Derived.Test.YtfdhcchakoldpaaOwnMsP
namespace Go.Proofs.Ytfdhcchakoldpaa
open Go.ChangeShapes Go.WideShapes Go.ChangeAt Go.RowKit Go.PlainAid
set_option linter.unusedVariables false

abbrev MsgL := List (Int × Int)
theorem eqL (a b : Option Addr) (l : List (Int × Int)) (n ca cb : Nat) (hl : l.length = n) (hn : n ≤ 1048576) (w : World) (ha : P.RdR w a l) (hb : P.RdR w b l) :
    Calls Try.prog 132 #[.agg #[.slice a n ca], .agg #[.slice b n cb]] w fun e w' => e = .returned (.bool true) ∧ Below w.heap.size w w' := by
  have HB : Hid (Below w.heap.size w ((w.alloc (.cells #[.slice a n ca] 166)).alloc (.cells #[.slice b n cb] 166))) := al2_b w _ _
  have HRa : Hid (P.RdR _ _ _) := ha.keep HB.out (Nat.le_refl _)
  have HRb : Hid (P.RdR _ _ _) := hb.keep HB.out (Nat.le_refl _)
  have HL : Hid (l.length = n) := hl
  clear ha hb hl
  go_enter Try.func132, Try.ntmps132
  go_wp2_with fail
  refine (P.eqIn a b l n ca cb HL.out hn _ HRa.out HRb.out).mono ?_
  rintro e w1 ⟨rfl, hb1⟩
  have HW : Hid (Below w.heap.size w w1) := HB.out.trans (hb1.mono HB.out.size)
  clear hb1
  go_wp2
  go_ret
  exact ⟨rfl, HW.out⟩
set_option maxRecDepth 100000 in
set_option maxHeartbeats 400000 in
theorem toL (a : Option Addr) (l : List (Int × Int)) (n cap : Nat) (hl : l.length = n) (hn : n ≤ 1048576) (w : World) (hr : P.RdR w a l) :
    Calls Try.prog 124 #[.agg #[.slice a n cap]] w fun e w' => ∃ g, e = .returned (.agg #[.slice (some ⟨g, 0, none⟩) n n]) ∧ w.heap.size ≤ g ∧ P.RowR w' g l ∧ Below w.heap.size w w' := by
  have HX : Hid (_ = _) := al3_2 w (.cells #[.slice a n cap] 215) (.cells #[.slice none 0 0] 166) (.cells #[.slice none 0 0] 166)
  have HY : Hid (_ = _) := al3_3 w (.cells #[.slice a n cap] 215) (.cells #[.slice none 0 0] 166) (.cells #[.slice none 0 0] 166)
  have HW : Hid (Below _ _ _) := al3_b w (.cells #[.slice a n cap] 215) (.cells #[.slice none 0 0] 166) (.cells #[.slice none 0 0] 166)
  have HS : Hid (_ = _) := al3_s w (.cells #[.slice a n cap] 215) (.cells #[.slice none 0 0] 166) (.cells #[.slice none 0 0] 166)
  have HR : Hid (P.RdR w a l) := hr
  have HL : Hid (l.length = n) := hl
  clear hr hl
  go_enter Try.func124, Try.ntmps124
  go_wp2_with fail
  refine (P.toRs a l n cap HL.out hn _ (HR.out.keep HW.out (Nat.le_refl _))).mono ?_
  rintro e w1 ⟨rfl, hrow, hb1⟩
  rw [HS.out] at hrow hb1 ⊢
  have kx := row1_cells (row_after HX.out hb1 (by omega))
  have ky := row1_cells (row_after HY.out hb1 (by omega))
  have HROW : Hid (P.RowR w1 (w.heap.size + 3) l) := hrow
  have HW1 : Hid (Below w.heap.size w w1) := HW.out.trans (hb1.mono (by omega))
  clear hrow hb1 HX HY HW HS HR
  go_wp2
  refine bodyPost_ret (v := .agg #[.slice (some ⟨w.heap.size + 3, 0, none⟩) n n]) (by simp [results, Try.results124, go_sem, kx]) rfl ⟨w.heap.size + 3, rfl, by omega, ?_, ?_⟩
  · exact set_other (set_other HROW.out (by omega)) (by omega)
  · exact (HW1.out.setCell (by simp; omega) _).setCell (by simp) _
theorem szM11 (a : Option Addr) (n cap : Nat) (m : Int) (m0 : 0 ≤ m) (m1 : m ≤ 1048576) (hn : n ≤ 9223372036854775807) (w : World) : Calls Try.prog 173 #[.slice a n cap, .int .i64 m] w fun e w' => e = .returned (.int .i64 (if (n : Int) ≤ m then m - (n : Int) else -1)) ∧ w' = w := by
  have hw : IntKind.i64.wrap (m - (n : Int)) = m - (n : Int) := wrap_in (by omega) (by omega)
  by_cases h : (n : Int) ≤ m
  · rw [if_pos h]
    have h0 : ¬ m - (n : Int) < 0 := by omega
    go_enter Try.func173, Try.ntmps173
    go_wp2
    go_ret
    exact ⟨rfl, rfl⟩
  · rw [if_neg h]
    have h0 : m - (n : Int) < 0 := by omega
    go_enter Try.func173, Try.ntmps173
    go_wp2
    go_ret
    exact ⟨rfl, rfl⟩
theorem openM11_cells : Try.prog.cellsOf 302 = 2 := by kernel_rfl
set_option maxRecDepth 100000 in
theorem openM11 {H : Type} {enc : TypeId × Value → H} {W : World} {held : Bool} {v : Value} {x : DataW H × List MemPlace} {bs fuel : Nat}
    (hf : DataW.trod enc Try.prog W bs (fun _ => true) held fuel 213 [v] = some x) :
    ∃ a len cap, ∃ l : List (Int × Int), v = .slice a len cap ∧ l.length = len ∧ len ≤ cap ∧ len ≤ 9223372036854775807 ∧ P.RdR W a l ∧ ∀ j (h : j < l.length), (Lit.int .i64 l[j].1).wf = true ∧ (Lit.int .i64 l[j].2).wf = true := by
  rcases Go.Deep.open_slice Try.underlying213 hf with ⟨hcs, _⟩ | ⟨ad, l, c, m, k, D, Pl, hcs, _, hl, hm, hmm, _, hcell⟩
  · simp at hcs
    subst hcs
    exact ⟨none, 0, 0, [], rfl, rfl, Nat.le_refl _, by omega, fun h => by simp at h, fun j h => by simp at h⟩
  · simp at hcs
    subst hcs
    simp at hmm
    subst hmm
    unfold maxLen at hm
    have each : ∀ i, i < l → ∃ r : Int × Int, W.cell? (ad.add (i * 2)) = some (.int .i64 r.1) ∧ W.cell? (ad.add (i * 2 + 1)) = some (.int .i64 r.2) ∧ (Lit.int .i64 r.1).wf = true ∧ (Lit.int .i64 r.2).wf = true := by
      intro i hi
      obtain ⟨cs', h1, h2⟩ := hcell i (by omega)
      rw [openM11_cells] at h1
      obtain ⟨_, hlen, hc⟩ := World.cells?_some h1
      obtain ⟨xs, kk, hk, hxy, _, hxl, hf⟩ := DataW.trod_struct Try.underlying302 h2
      match xs, hxl, cs', hlen with
      | [y0, y1], _, [v0, v1], _ =>
        have g0 := hf 0 _ rfl
        have g1 := hf 1 _ rfl
        simp [cells3] at g0 g1
        have e0 := hc 0 (by omega)
        have e1 := hc 1 (by omega)
        rw [Go.Deep.add_add] at e0 e1
        obtain ⟨z0, q0, _, u0⟩ := DataW.trod_int Try.underlying3 g0
        obtain ⟨z1, q1, _, u1⟩ := DataW.trod_int Try.underlying3 g1
        simp at q0 q1
        subst q0 q1
        exact ⟨(z0, z1), by simpa using e0, by simpa using e1, u0, u1⟩
    obtain ⟨q, hq⟩ := Go.Deep.choose_lt each
    refine ⟨some ad, l, _, (List.range l).map q, rfl, by simp, hl, by omega, fun h0 => ?_, fun j hj => ?_⟩
    · have h0' : 0 < l := by simpa using h0
      obtain ⟨b, off, spot⟩ := ad
      have hspot : spot = none := by simpa [Addr.add] using World.cell?_spot (hq 0 (by omega)).1
      subst hspot
      refine ⟨b, off, rfl, fun j hj => ?_⟩
      have hj' : j < l := by simpa using hj
      obtain ⟨h0, h1, _⟩ := hq j hj'
      rw [add_at] at h0 h1
      simp only [List.getElem_map, List.getElem_range]
      exact ⟨h0, h1⟩
    · have hj' : j < l := by simpa using hj
      simp only [List.getElem_map, List.getElem_range]
      exact (hq j hj').2.2
def RowV (w : World) (g : Nat) (v : List Value) : Prop := w.heap[g]? = some (.cells v.toArray 166 (0, 0))
theorem RowV.lt {w : World} {g : Nat} {v : List Value} (h : RowV w g v) : g < w.heap.size := row_lt h
theorem RowV.on {w w' : World} {g : Nat} {v : List Value} (h : RowV w g v) (hb : Below w.heap.size w w') : RowV w' g v := row_after h hb (row_lt h)
theorem RowV.cell {w : World} {g : Nat} {v : List Value} (h : RowV w g v) (j : Nat) (hj : j < v.length) : w.cell? ⟨g, j, none⟩ = some v[j] := by
  rw [cell_of_row w g j _ _ (0, 0) h]
  simp [hj]
theorem RowV.free {w : World} {g : Nat} {v : List Value} (h : RowV w g v) (j : Nat) : w.frozen? ⟨g, j, none⟩ = false := frozen_of_row w g j _ _ h
theorem RowV.set {w : World} {g : Nat} {v : List Value} (h : RowV w g v) (j : Nat) (x : Value) : RowV (w.setCell ⟨g, j, none⟩ x) g (v.set j x) := by
  unfold RowV at h ⊢
  rw [heap_setCell_same w g j _ _ x h]
  simp
theorem infoV : (Try.prog.info? 166).map (fun i => (i.zero, i.size, i.bytes)) = some (some (.agg #[.slice none 0 0]), 1, 24) := by kernel_rfl
theorem linV_zero (n : Nat) : madeCells #[.slice none 0 0] (n * 1) = (List.replicate n (Value.slice none 0 0)).toArray := by
  apply Array.ext
  · simp [madeCells]
  · intro j h1 h2
    simp [madeCells, Nat.mod_one]
theorem makeV (n : Nat) (hn : n ≤ 1048576) (w : World) : (Instr.makeSlice 35 (.int .i64 n) (.int .i64 n)).run Try.prog w = .ok (.slice (some ⟨w.heap.size, 0, none⟩) n n) (w.alloc (.cells (List.replicate n (Value.slice none 0 0)).toArray 166)) := by
  obtain ⟨i0, hi, hz0, hz1, hz2⟩ := info_parts infoV
  have h := run_make (P := Try.prog) w 35 166 i0 _ Try.underlying35 hi hz0 .i64 .i64 n n (by omega) (Int.le_refl _) (by rw [hz2]; omega) (by omega)
  rw [hz1, Int.toNat_natCast, show (Value.agg #[.slice none 0 0]).cells = #[.slice none 0 0] from rfl, linV_zero] at h
  exact h
/-- a line at a place, read -/
def CelL (w : World) (g o : Nat) (l : MsgL) : Prop := ∃ b c, w.cell? ⟨g, o, none⟩ = some (.slice b l.length c) ∧ l.length ≤ c ∧ P.RdR w b l
theorem CelL.keep {w w' : World} {g o B : Nat} {l : MsgL} (h : CelL w g o l) (hb : Below B w w') (hB : w.heap.size ≤ B) : CelL w' g o l := by
  obtain ⟨b, c, h2, hc, hr⟩ := h
  have hg : g < B := Nat.lt_of_lt_of_le (World.block_lt_of_cell? w ⟨g, o, none⟩ h2) hB
  exact ⟨b, c, (hb.cell (p := ⟨g, o, none⟩) hg).trans h2, hc, hr.keep hb hB⟩
def RdL (w : World) (a : Option Addr) (l : List MsgL) : Prop := 0 < l.length → ∃ g off, a = some ⟨g, off, none⟩ ∧ ∀ j (h : j < l.length), CelL w g (off + j) l[j]
theorem RdL.keep {w w' : World} {a : Option Addr} {l : List MsgL} {B : Nat} (h : RdL w a l) (hb : Below B w w') (hB : w.heap.size ≤ B) : RdL w' a l := fun h0 => by
  obtain ⟨g, off, e, hc⟩ := h h0
  exact ⟨g, off, e, fun j hj => (hc j hj).keep hb hB⟩
theorem RdL.on {w w' : World} {a : Option Addr} {l : List MsgL} (h : RdL w a l) (hb : Below w.heap.size w w') : RdL w' a l := h.keep hb (Nat.le_refl _)
/-- lines that were made anew, from block lo on -/
structure OwnL (w : World) (lo : Nat) (a : Option Addr) (l : List MsgL) : Prop where
  ex : ∃ (g : Nat) (b : Nat → Nat) (v : List Value), a = some ⟨g, 0, none⟩ ∧ lo ≤ g ∧ RowV w g v ∧ v.length = l.length ∧ ∀ j (h : j < l.length) (h' : j < v.length), v[j] = .slice (some ⟨b j, 0, none⟩) l[j].length l[j].length ∧ lo ≤ b j ∧ P.RowR w (b j) l[j]
theorem OwnL.agree {w w' : World} {lo : Nat} {a : Option Addr} {l : List MsgL} (h : OwnL w lo a l) (ha : Agr lo w w') : OwnL w' lo a l := by
  obtain ⟨g, b, v, e, hg, hr, hl, hc⟩ := h.ex
  exact ⟨g, b, v, e, hg, agr_row ha hg hr, hl, fun j h h' => ⟨(hc j h h').1, (hc j h h').2.1, agr_row ha (hc j h h').2.1 (hc j h h').2.2⟩⟩
theorem OwnL.less {w : World} {lo lo' : Nat} {a : Option Addr} {l : List MsgL} (h : OwnL w lo a l) (hl' : lo' ≤ lo) : OwnL w lo' a l := by
  obtain ⟨g, b, v, e, hg, hr, hl, hc⟩ := h.ex
  exact ⟨g, b, v, e, Nat.le_trans hl' hg, hr, hl, fun j h h' => ⟨(hc j h h').1, Nat.le_trans hl' (hc j h h').2.1, (hc j h h').2.2⟩⟩
theorem OwnL.rd {w : World} {lo : Nat} {a : Option Addr} {l : List MsgL} (h : OwnL w lo a l) : RdL w a l := fun _ => by
  obtain ⟨g, b, v, e, hg, hr, hl, hc⟩ := h.ex
  refine ⟨g, 0, e, fun j hj => ?_⟩
  obtain ⟨h1, _, h3⟩ := hc j hj (by omega)
  have h4 := hr.cell j (by omega)
  rw [h1] at h4
  rw [Nat.zero_add]
  exact ⟨_, _, h4, Nat.le_refl _, h3.rd⟩
def valsL (l : List MsgL) (b : Nat → Nat) (n j : Nat) : List Value := (List.range n).map fun i => if h : i < j ∧ i < l.length then .slice (some ⟨b i, 0, none⟩) (l[i]'h.2).length (l[i]'h.2).length else .slice none 0 0
theorem valsL_len (l : List MsgL) (b : Nat → Nat) (n j : Nat) : (valsL l b n j).length = n := by simp [valsL]
theorem valsL_zero (l : List MsgL) (b : Nat → Nat) (n : Nat) : valsL l b n 0 = List.replicate n (Value.slice none 0 0) := by
  apply List.ext_getElem
  · simp [valsL]
  · intro i h1 h2
    simp [valsL]
theorem valsL_set (l : List MsgL) (b : Nat → Nat) (n j g : Nat) (hl : l.length = n) (hj : j < n) (hj' : j < l.length) : (valsL l b n j).set j (.slice (some ⟨g, 0, none⟩) l[j].length l[j].length) = valsL l (fun i => if i = j then g else b i) n (j + 1) := by
  apply List.ext_getElem
  · simp [valsL]
  · intro i h1 h2
    have hi : i < n := by simpa [valsL] using h2
    rw [List.getElem_set]
    by_cases e : j = i
    · subst e
      simp [valsL, hj']
    · have e' : i ≠ j := fun h => e h.symm
      have hlt : i < j + 1 ↔ i < j := by omega
      simp [valsL, e, e', hlt]
theorem valsL_at (l : List MsgL) (b : Nat → Nat) (n : Nat) (hl : l.length = n) (j : Nat) (h : j < l.length) (h' : j < (valsL l b n n).length) : (valsL l b n n)[j] = .slice (some ⟨b j, 0, none⟩) l[j].length l[j].length := by
  have hj : j < n := by omega
  simp [valsL, hj, h]
structure UpL (w wr : World) (g : Nat) (l : List MsgL) (n j : Nat) : Prop where
  ex : ∃ b : Nat → Nat, RowV wr g (valsL l b n j) ∧ ∀ i (h : i < l.length), i < j → g < b i ∧ P.RowR wr (b i) l[i]
  bel : Below w.heap.size w wr
theorem UpL.own {w wr : World} {g : Nat} {l : List MsgL} {n : Nat} (h : UpL w wr g l n n) (hl : l.length = n) : OwnL wr g (some ⟨g, 0, none⟩) l := by
  obtain ⟨b, hr, hb⟩ := h.ex
  exact ⟨g, b, _, rfl, Nat.le_refl _, hr, by rw [valsL_len, hl], fun j h h' => ⟨valsL_at l b n hl j h h', Nat.le_of_lt (hb j h (by omega)).1, (hb j h (by omega)).2⟩⟩
theorem UpL.step {w wr w1 : World} {g g1 m : Nat} {l : List MsgL} {n j : Nat} {sk : MsgL} (h : UpL w wr g l n j) (hw : w.heap.size ≤ g) (hl : l.length = n) (hj : j < n) (hj' : j < l.length) (hp : sk = l[j]) (hm : sk.length = m) (hb : Below wr.heap.size wr w1) (hg : wr.heap.size ≤ g1) (hrow : P.RowR w1 g1 sk) :
    UpL w (w1.setCell ⟨g, j, none⟩ (.slice (some ⟨g1, 0, none⟩) m m)) g l n (j + 1) := by
  obtain ⟨b, hr, hbb⟩ := h.ex
  have hgl : g < wr.heap.size := hr.lt
  have hr1 : RowV w1 g (valsL l b n j) := hr.on hb
  have hs := hr1.set j (.slice (some ⟨g1, 0, none⟩) m m)
  subst hm
  subst hp
  rw [valsL_set l b n j g1 hl hj hj'] at hs
  refine ⟨⟨_, hs, fun i hi hij => ?_⟩, ?_⟩
  · by_cases e : i = j
    · subst e
      simp only [if_true]
      refine ⟨by omega, ?_⟩
      unfold P.RowR
      rw [Below.heap_setCell _ _ _ _ (show g1 ≠ g by omega)]
      exact hrow
    · simp only [e, if_false]
      obtain ⟨h1, h2⟩ := hbb i hi (by omega)
      refine ⟨h1, ?_⟩
      have h3 := P.RowR.on h2 hb
      unfold P.RowR at h3 ⊢
      rw [Below.heap_setCell _ _ _ _ (show b i ≠ g by omega)]
      exact h3
  · exact (bel_on (Nat.le_refl _) h.bel hb).setCell hw _
set_option maxRecDepth 100000 in
set_option maxHeartbeats 2000000 in
theorem toLs (a : Option Addr) (l : List MsgL) (n cap : Nat) (hl : l.length = n) (hn : n ≤ 1048576) (hs : ∀ j (h : j < l.length), l[j].length ≤ 1048576) (w : World) (hr : RdL w a l) :
    Calls Try.prog 67 #[.slice a n cap] w fun e w' => e = .returned (.slice (some ⟨w.heap.size, 0, none⟩) n n) ∧ OwnL w' w.heap.size (some ⟨w.heap.size, 0, none⟩) l ∧ Below w.heap.size w w' := by
  have HL : Hid (l.length = n) := hl
  have HS : Hid (∀ j (h : j < l.length), l[j].length ≤ 1048576) := hs
  have HU0 : Hid (UpL w (w.alloc (.cells (List.replicate n (Value.slice none 0 0)).toArray 166)) w.heap.size l n 0) := ⟨⟨fun _ => 0, by rw [valsL_zero]; exact heap_new w _, fun i h h' => by omega⟩, (Below.refl w.heap.size w).alloc (Nat.le_refl _) _⟩
  have hmk := makeV n hn
  clear hl hs
  by_cases hp : 0 < n
  · obtain ⟨g, off, rfl, hc⟩ := hr (by have := HL.out; omega)
    have HC : Hid (∀ j (h : j < l.length), CelL w g (off + j) l[j]) := hc
    clear hr hc
    go_enter Try.func67, Try.ntmps67
    go_wp2
    go_loopg [4] n (fun gk i wr => ∃ j : Nat, j + gk = n ∧ i = .int .i64 j ∧ Hid (UpL w wr w.heap.size l n j))
    case atStart => exact ⟨0, by omega, rfl, HU0⟩
    case round =>
      clear HU0
      obtain ⟨j, hj, rfl, HU⟩ := hrel
      by_cases hlt : j < n
      · have hjl : j < l.length := by have := HL.out; omega
        have hsz := HS.out j hjl
        have c := (HC.out j hjl).keep HU.out.bel (Nat.le_refl _)
        obtain ⟨sk, hP⟩ : ∃ P, P = l[j] := ⟨_, rfl⟩
        rw [← hP] at c hsz
        have HP : Hid (sk = l[j]) := hP
        clear hP
        obtain ⟨b, cc, c2, _, hrd⟩ := c
        obtain ⟨m, hm⟩ : ∃ m, sk.length = m := ⟨_, rfl⟩
        rw [hm] at c2 hsz
        have HM : Hid (sk.length = m) := hm
        have HRD : Hid (P.RdR wr b sk) := hrd
        clear hm hrd
        go_wp2_with fail
        refine (toL b sk m cc HM.out hsz _ HRD.out).mono ?_
        rintro e w1 ⟨g1, rfl, hg1, hrow, hb1⟩
        obtain ⟨v, hv, hq1⟩ : ∃ v, v.length = n ∧ RowV w1 w.heap.size v := by
          obtain ⟨bb, hr, _⟩ := HU.out.ex
          exact ⟨_, valsL_len l bb n j, hr.on hb1⟩
        have hu : j < v.length := by omega
        have d := hq1.cell j hu
        have d0 := hq1.free j
        have HU2 : Hid (UpL w (w1.setCell ⟨w.heap.size, j, none⟩ (.slice (some ⟨g1, 0, none⟩) m m)) w.heap.size l n (j + 1)) := HU.out.step (Nat.le_refl _) HL.out hlt hjl HP.out HM.out hb1 hg1 hrow
        generalize v[j] = q0 at d
        clear hb1 HU hu hq1 hv c2 HRD HM HP hrow hg1 hsz
        go_wp2
        go_roundg (gk - 1)
        case measure => omega
        case rel => exact ⟨j + 1, by omega, by go_num, HU2⟩
      · obtain rfl : j = n := by omega
        have HO : Hid (OwnL wr w.heap.size (some ⟨w.heap.size, 0, none⟩) l) := HU.out.own HL.out
        go_wp2
        go_ret
        exact ⟨rfl, HO.out, HU.out.bel⟩
  · obtain rfl : n = 0 := by omega
    have HO : Hid (OwnL (w.alloc (.cells (List.replicate 0 (Value.slice none 0 0)).toArray 166)) w.heap.size (some ⟨w.heap.size, 0, none⟩) l) := HU0.out.own HL.out
    clear hr hp
    have hmk0 : ∀ w : World, (Instr.makeSlice 35 (.int .i64 0) (.int .i64 0)).run Try.prog w = .ok (.slice (some ⟨w.heap.size, 0, none⟩) 0 0) (w.alloc (.cells (List.replicate 0 (Value.slice none 0 0)).toArray 166)) := hmk
    clear hmk
    go_enter Try.func67, Try.ntmps67
    go_wp2
    go_rounds 1
    go_ret
    exact ⟨rfl, HO.out, HU0.out.bel⟩
theorem keepL2 {w W W' : World} {ga oa gb ob : Nat} {x y : Value} (hb : Below W.heap.size W W') (h : W.cell? ⟨ga, oa, none⟩ = some x ∧ W.cell? ⟨gb, ob, none⟩ = some y ∧ Below w.heap.size w W) : W'.cell? ⟨ga, oa, none⟩ = some x ∧ W'.cell? ⟨gb, ob, none⟩ = some y ∧ Below w.heap.size w W' :=
  ⟨cell_on h.1 hb, cell_on h.2.1 hb, bel_on (Nat.le_refl _) h.2.2 hb⟩
theorem belL2 {w W : World} {P0 P1 : Prop} (h : P0 ∧ P1 ∧ Below w.heap.size w W) : Below w.heap.size w W := h.2.2
theorem drewL2 {w W : World} {ga oa gb ob : Nat} {x y : Value} (h : W.cell? ⟨ga, oa, none⟩ = some x ∧ W.cell? ⟨gb, ob, none⟩ = some y ∧ Below w.heap.size w W) : W.drew.cell? ⟨ga, oa, none⟩ = some x ∧ W.drew.cell? ⟨gb, ob, none⟩ = some y ∧ Below w.heap.size w W.drew := ⟨h.1, h.2.1, h.2.2.drew⟩
set_option maxRecDepth 100000 in
set_option maxHeartbeats 2000000 in
theorem eqLs (a b : Option Addr) (l : List MsgL) (n ca' cb' : Nat) (hl : l.length = n) (hn : n ≤ 1048576) (hs : ∀ j (h : j < l.length), l[j].length ≤ 1048576) (w : World) (ha : RdL w a l) (hb : RdL w b l) :
    Calls Try.prog 73 #[.slice a n ca', .slice b n cb'] w fun e w' => e = .returned (.bool true) ∧ Below w.heap.size w w' := by
  have HL : Hid (l.length = n) := hl
  have HS : Hid (∀ j (h : j < l.length), l[j].length ≤ 1048576) := hs
  clear hl hs
  by_cases hp : 0 < n
  · obtain ⟨ga, oa, rfl, hca⟩ := ha (by have := HL.out; omega)
    obtain ⟨gb, ob, rfl, hcb⟩ := hb (by have := HL.out; omega)
    have HA : Hid (∀ j (h : j < l.length), CelL w ga (oa + j) l[j]) := hca
    have HB : Hid (∀ j (h : j < l.length), CelL w gb (ob + j) l[j]) := hcb
    clear ha hb hca hcb
    go_enter Try.func73, Try.ntmps73
    go_wp2
    go_loopg [5] n (fun gk i wr => ∃ j : Nat, j + gk = n ∧ i = .int .i64 j ∧ Hid (Below w.heap.size w wr))
    case atStart => exact ⟨0, by omega, rfl, Below.refl _ _⟩
    case round =>
      obtain ⟨j, hj, rfl, HW⟩ := hrel
      by_cases hlt : j < n
      · have hjl : j < l.length := by have := HL.out; omega
        have hsz := HS.out j hjl
        have c := HA.out j hjl
        have d := HB.out j hjl
        obtain ⟨sk, hP⟩ : ∃ P, P = l[j] := ⟨_, rfl⟩
        rw [← hP] at c d hsz
        clear hP
        obtain ⟨ba, ca, c2, _, ra⟩ := c
        obtain ⟨bb, cb, d2, _, rb⟩ := d
        obtain ⟨m, hm⟩ : ∃ m, sk.length = m := ⟨_, rfl⟩
        rw [hm] at c2 d2 hsz
        have HM : Hid (sk.length = m) := hm
        have RA : Hid (P.RdR w ba sk) := ra
        have RB : Hid (P.RdR w bb sk) := rb
        have HC : Hid (wr.cell? ⟨ga, oa + j, none⟩ = some (.slice ba m ca) ∧ wr.cell? ⟨gb, ob + j, none⟩ = some (.slice bb m cb) ∧ Below w.heap.size w wr) := keepL2 HW.out ⟨c2, d2, Below.refl _ _⟩
        clear c2 d2 ra rb hm hjl
        have i0 : (0 : Int) ≤ (j : Int) := by omega
        have i1 : (j : Int) < (n : Int) := by omega
        go_wp2
        go_region_held3 (fun w' => w'.cell? ⟨ga, oa + j, none⟩ = some (.slice ba m ca) ∧ w'.cell? ⟨gb, ob + j, none⟩ = some (.slice bb m cb) ∧ Below w.heap.size w w') (first | (refine keepL2 (by assumption) ?_; assumption) | (with_reducible exact drewL2 HC.out)) (first | (go_at_call 132; refine (eqL ba bb sk m ca cb HM.out hsz _ (RA.out.keep (belL2 (by assumption)) (Nat.le_refl _)) (RB.out.keep (belL2 (by assumption)) (Nat.le_refl _))).mono ?_; rintro e w2 ⟨rfl, hb2⟩))
        rename_i HH
        have HW2 : Hid (Below w.heap.size w w2) := HH.2.2
        clear HH hb2 HC HW RA RB HM hsz
        go_wp2
        go_roundg (gk - 1)
        case measure => omega
        case rel => exact ⟨j + 1, by omega, by go_num, HW2⟩
      · go_wp2
        go_ret
        exact ⟨rfl, HW.out⟩
  · obtain rfl : n = 0 := by omega
    clear ha hb
    go_enter Try.func73, Try.ntmps73
    go_wp2
    go_rounds 1
    go_ret
    exact ⟨rfl, Below.refl _ _⟩
theorem szLn (a : Option Addr) (n cap : Nat) (m : Int) (m0 : 0 ≤ m) (m1 : m ≤ 1048576) (hn : n ≤ 9223372036854775807) (w : World) : Calls Try.prog 117 #[.agg #[.slice a n cap], .int .i64 m] w fun e w' => e = .returned (.int .i64 (if (n : Int) ≤ m then m - (n : Int) else -1)) ∧ Below w.heap.size w w' := by
  have HB : Hid (Below w.heap.size w (w.alloc (.cells #[.slice a n cap] 215))) := (Below.refl _ _).alloc (Nat.le_refl _) _
  by_cases h : (n : Int) ≤ m
  · rw [if_pos h]
    have h0 : ¬ m - (n : Int) < 0 := by omega
    go_enter Try.func117, Try.ntmps117
    go_wp2_with fail
    refine (szM11 a n cap m m0 m1 hn _).mono ?_
    rw [if_pos (by omega)]
    rintro e w1 ⟨rfl, rfl⟩
    go_wp2
    go_ret
    exact ⟨rfl, HB.out⟩
  · rw [if_neg h]
    go_enter Try.func117, Try.ntmps117
    go_wp2_with fail
    refine (szM11 a n cap m m0 m1 hn _).mono ?_
    rw [if_neg (by omega)]
    rintro e w1 ⟨rfl, rfl⟩
    go_wp2
    go_ret
    exact ⟨rfl, HB.out⟩
set_option maxRecDepth 100000 in
set_option maxHeartbeats 1000000 in
theorem szLs (a : Option Addr) (l : List MsgL) (n cap : Nat) (m : Int) (m0 : 0 ≤ m) (m1 : m ≤ 1048576) (hl : l.length = n) (hn : n ≤ 9223372036854775807) (hz : ∀ j (h : j < l.length), l[j].length ≤ 9223372036854775807) (w : World) (hr : RdL w a l) :
    Calls Try.prog 61 #[.slice a n cap, .int .i64 m] w fun e w' => ∃ r : Int, e = .returned (.int .i64 r) ∧ (r = -1 ∨ (0 ≤ r ∧ r ≤ m ∧ (n : Int) ≤ m ∧ ∀ j (h : j < l.length), l[j].length ≤ 1048576)) ∧ Below w.heap.size w w' := by
  have HL : Hid (l.length = n) := hl
  have HZ : Hid (∀ j (h : j < l.length), l[j].length ≤ 9223372036854775807) := hz
  have hwm : IntKind.i64.wrap (m - (n : Int)) = m - (n : Int) := wrap_in (by omega) (by omega)
  clear hz hl
  by_cases h1 : (n : Int) ≤ m
  · have h0 : ¬ m - (n : Int) < 0 := by omega
    by_cases hp : 0 < n
    · obtain ⟨g, off, rfl, hc⟩ := hr (by have := HL.out; omega)
      have HC : Hid (∀ j (h : j < l.length), CelL w g (off + j) l[j]) := hc
      clear hr hc
      go_enter Try.func61, Try.ntmps61
      go_wp2
      go_loopg [1, 5] n (fun gk lv i wr => ∃ (j : Nat) (x : Int), j + gk = n ∧ lv = .int .i64 x ∧ i = .int .i64 j ∧ 0 ≤ x ∧ x ≤ m ∧ Hid (∀ i (h : i < l.length), i < j → l[i].length ≤ 1048576) ∧ Hid (Below w.heap.size w wr))
      case atStart => exact ⟨0, m - n, by omega, rfl, rfl, by omega, by omega, fun i h h' => by omega, Below.refl _ _⟩
      case round =>
        clear hwm h0
        obtain ⟨j, x, hj, rfl, rfl, x0, x1, HX, HW⟩ := hrel
        by_cases hlt : j < n
        · have hjl : j < l.length := by have := HL.out; omega
          have hzj := HZ.out j hjl
          have c := (HC.out j hjl).keep HW.out (Nat.le_refl _)
          have HX1 : Hid (l[j].length ≤ 1048576 → ∀ i (h : i < l.length), i < j + 1 → l[i].length ≤ 1048576) := by
            intro hh i hi hij
            by_cases e : i = j
            · subst e; exact hh
            · exact HX.out i hi (by omega)
          obtain ⟨sk, hP⟩ : ∃ P, P = l[j] := ⟨_, rfl⟩
          rw [← hP] at c hzj HX1
          clear hP HX
          obtain ⟨b, cc, c2, _, _⟩ := c
          obtain ⟨k, hk⟩ : ∃ k, sk.length = k := ⟨_, rfl⟩
          rw [hk] at c2 hzj HX1
          clear hk hjl
          go_wp2_with fail
          refine (szLn b k cc x x0 (by omega) hzj _).mono ?_
          rintro e w1 ⟨rfl, hb1⟩
          have HW1 : Hid (Below w.heap.size w w1) := bel_on (Nat.le_refl _) HW.out hb1
          clear hb1 HW c2
          by_cases hk : (k : Int) ≤ x
          · rw [if_pos hk]
            have hneg : ¬ x - (k : Int) < 0 := by omega
            have HX2 : Hid (∀ i (h : i < l.length), i < j + 1 → l[i].length ≤ 1048576) := HX1.out (by omega)
            clear HX1
            go_wp2
            go_roundg (gk - 1)
            case measure => omega
            case rel => exact ⟨j + 1, x - k, by omega, rfl, by go_num, by omega, by omega, HX2, HW1⟩
          · rw [if_neg hk]
            clear HX1
            go_wp2
            go_ret
            exact ⟨-1, rfl, .inl rfl, HW1.out⟩
        · have HX2 : Hid (∀ i (h : i < l.length), l[i].length ≤ 1048576) := fun i h => HX.out i h (by have := HL.out; omega)
          clear HX
          go_wp2
          go_ret
          exact ⟨x, rfl, .inr ⟨x0, x1, h1, HX2.out⟩, HW.out⟩
    · obtain rfl : n = 0 := by omega
      have HX2 : Hid (∀ i (h : i < l.length), l[i].length ≤ 1048576) := fun i h => by have := HL.out; omega
      clear hr hp
      go_enter Try.func61, Try.ntmps61
      go_wp2
      go_rounds 1
      go_ret
      exact ⟨m, rfl, .inr ⟨m0, Int.le_refl _, h1, HX2.out⟩, Below.refl _ _⟩
  · have h0 : m - (n : Int) < 0 := by omega
    clear hr
    go_enter Try.func61, Try.ntmps61
    go_wp2
    go_ret
    exact ⟨-1, rfl, .inl rfl, Below.refl _ _⟩
theorem openL_cells : Try.prog.cellsOf 215 = 1 := by kernel_rfl
theorem openL_msgs : Try.prog.cellsOf 213 = 1 := by kernel_rfl
set_option maxRecDepth 100000 in
theorem openL {H : Type} {enc : TypeId × Value → H} {W : World} {held : Bool} {v : Value} {x : DataW H × List MemPlace} {bs fuel : Nat}
    (hf : DataW.trod enc Try.prog W bs (fun _ => true) held fuel 83 [v] = some x) :
    ∃ a len cap, ∃ l : List MsgL, v = .slice a len cap ∧ l.length = len ∧ len ≤ cap ∧ len ≤ 9223372036854775807 ∧ RdL W a l ∧ ∀ j (h : j < l.length), l[j].length ≤ 9223372036854775807 := by
  rcases Go.Deep.open_slice Try.underlying83 hf with ⟨hcs, _⟩ | ⟨ad, l, c, m, k, D, Pl, hcs, _, hl, hm, hmm, _, hcell⟩
  · simp at hcs
    subst hcs
    exact ⟨none, 0, 0, [], rfl, rfl, Nat.le_refl _, by omega, fun h => by simp at h, fun j h => by simp at h⟩
  · simp at hcs
    subst hcs
    simp at hmm
    subst hmm
    unfold maxLen at hm
    have each : ∀ i, i < l → ∃ p : MsgL, (∃ b c, W.cell? (ad.add i) = some (.slice b p.length c) ∧ p.length ≤ c ∧ P.RdR W b p) ∧ p.length ≤ 9223372036854775807 := by
      intro i hi
      obtain ⟨cs', h1, h2⟩ := hcell i (by omega)
      rw [openL_cells, Nat.mul_one] at h1
      obtain ⟨_, hlen, hc⟩ := World.cells?_some h1
      obtain ⟨xs, kk, hk, hxy, _, hxl, hf⟩ := DataW.trod_struct Try.underlying215 h2
      match xs, hxl, cs', hlen with
      | [y0], _, [v0], _ =>
        have g0 := hf 0 _ rfl
        simp only [List.getElem?_cons_zero] at g0
        have e0 := hc 0 (by omega)
        rw [Go.Deep.add_add] at e0
        obtain ⟨ba, len, cap, sk, q5, hsl, hcap, hmax, hrd, _⟩ := openM11 g0
        subst q5
        subst hsl
        exact ⟨sk, ⟨ba, cap, by simpa using e0, hcap, hrd⟩, hmax⟩
    obtain ⟨q, hq⟩ := Go.Deep.choose_lt each
    refine ⟨some ad, l, _, (List.range l).map q, rfl, by simp, hl, by omega, fun h0 => ?_, fun j hj => ?_⟩
    · have h0' : 0 < l := by simpa using h0
      obtain ⟨b, off, spot⟩ := ad
      have hspot : spot = none := by
        obtain ⟨⟨b', c', h', _⟩, _⟩ := hq 0 (by omega)
        simpa [Addr.add] using World.cell?_spot h'
      subst hspot
      refine ⟨b, off, rfl, fun j hj => ?_⟩
      have hj' : j < l := by simpa using hj
      obtain ⟨⟨b2, c2, h2, hc2, hr2⟩, _⟩ := hq j hj'
      rw [add_at] at h2
      simp only [List.getElem_map, List.getElem_range]
      exact ⟨b2, c2, h2, hc2, hr2⟩
    · have hj' : j < l := by simpa using hj
      simp only [List.getElem_map, List.getElem_range]
      exact (hq j hj').2
end Go.Proofs.Ytfdhcchakoldpaa
