/-
  Parts of a kernel: copied, compared, sized, as they came in.
-/
import Derived.Test.YtfdhcchakoldpaaKPar
import Derived.Test.YtfdhcchakoldpaaFaultM
import Derived.Deep.CutBlock
namespace Go.Proofs.Ytfdhcchakoldpaa
open Go.ChangeShapes Go.WideShapes Go.ChangeAt Go.RowKit Go.PlainAid
set_option linter.unusedVariables false

theorem box6_cells {w : World} {k : Nat} {t : TypeId} {x0 x1 x2 x3 x4 x5 : Value} (h : w.heap[k]? = some (.cells #[x0, x1, x2, x3, x4, x5] t)) :
    (w.cell? ⟨k, 0, none⟩ = some x0 ∧ w.cell? ⟨k, 1, none⟩ = some x1 ∧ w.cell? ⟨k, 2, none⟩ = some x2 ∧ w.cell? ⟨k, 3, none⟩ = some x3 ∧ w.cell? ⟨k, 4, none⟩ = some x4 ∧ w.cell? ⟨k, 5, none⟩ = some x5) ∧ w.frozen? ⟨k, 0, none⟩ = false ∧ w.frozen? ⟨k, 1, none⟩ = false ∧ w.frozen? ⟨k, 2, none⟩ = false ∧ w.frozen? ⟨k, 3, none⟩ = false ∧ w.frozen? ⟨k, 4, none⟩ = false ∧ w.frozen? ⟨k, 5, none⟩ = false := by
  refine ⟨⟨?_, ?_, ?_, ?_, ?_, ?_⟩, ?_, ?_, ?_, ?_, ?_, ?_⟩ <;> simp [World.cell?, World.frozen?, h]
/-- two boxes of a machine and one of another, laid one behind the other -/
theorem box3 (w : World) (x y x' y' x'' y'' : Value) (t r q : TypeId) :
    (((w.alloc (.cells #[x, y] t)).alloc (.cells #[x', y'] r)).alloc (.cells #[x'', y''] q)).heap[w.heap.size]? = some (.cells #[x, y] t) ∧ (((w.alloc (.cells #[x, y] t)).alloc (.cells #[x', y'] r)).alloc (.cells #[x'', y''] q)).heap[w.heap.size + 1]? = some (.cells #[x', y'] r) ∧ (((w.alloc (.cells #[x, y] t)).alloc (.cells #[x', y'] r)).alloc (.cells #[x'', y''] q)).heap[w.heap.size + 2]? = some (.cells #[x'', y''] q) ∧ Below w.heap.size w (((w.alloc (.cells #[x, y] t)).alloc (.cells #[x', y'] r)).alloc (.cells #[x'', y''] q)) ∧ (((w.alloc (.cells #[x, y] t)).alloc (.cells #[x', y'] r)).alloc (.cells #[x'', y''] q)).heap.size = w.heap.size + 3 := by
  have h0 := heap_new w (.cells #[x, y] t)
  have h1 := heap_new (w.alloc (.cells #[x, y] t)) (.cells #[x', y'] r)
  have h2 := heap_new ((w.alloc (.cells #[x, y] t)).alloc (.cells #[x', y'] r)) (.cells #[x'', y''] q)
  refine ⟨(Below.heap_alloc _ _ _ (by simp; omega)).trans ((Below.heap_alloc _ _ _ (by simp)).trans h0), (Below.heap_alloc _ _ _ (by simp)).trans (by simpa using h1), by simpa using h2, (((Below.refl _ _).alloc (Nat.le_refl _) _).alloc (by simp) _).alloc (by simp; omega) _, by simp⟩
set_option maxRecDepth 100000 in
set_option maxHeartbeats 400000 in
theorem toC (a : Option Addr) (pc : Int) (l : List Int) (n cap : Nat) (hl : l.length = n) (hn : n ≤ 1048576) (w : World) (hr : Rd w a l) :
    Calls Try.prog 178 #[.agg #[.int .i64 pc, .slice a n cap]] w fun e w' => ∃ g, e = .returned (.agg #[.int .i64 pc, .slice (some ⟨g, 0, none⟩) n n]) ∧ w.heap.size ≤ g ∧ RowAt w' g l ∧ Below w.heap.size w w' := by
  obtain ⟨hX, hY, hZ, hW, hS⟩ := box3 w (.int .i64 pc) (.slice a n cap) (.int .i64 0) (.slice none 0 0) (.int .i64 pc) (.slice none 0 0) 209 98 98
  have HX : Hid (_ = _) := hX
  have HY : Hid (_ = _) := hY
  have HZ : Hid (_ = _) := hZ
  have HW : Hid (Below _ _ _) := hW
  have HS : Hid (_ = _) := hS
  have HR : Hid (Rd w a l) := hr
  have HL : Hid (l.length = n) := hl
  clear hX hY hZ hW hS hr hl
  go_enter Try.func178, Try.ntmps178
  go_wp2_with fail
  refine (C.toI a l n cap HL.out hn _ (HR.out.keep HW.out (Nat.le_refl _))).mono ?_
  rintro e w1 ⟨rfl, hrow, hb1⟩
  rw [HS.out] at hrow hb1 ⊢
  have ky := row2_cells (row_after HY.out hb1 (by omega))
  have kz := row2_cells (row_after HZ.out hb1 (by omega))
  have HROW : Hid (RowAt w1 (w.heap.size + 3) l) := hrow
  have HW1 : Hid (Below w.heap.size w w1) := HW.out.trans (hb1.mono (by omega))
  clear hrow hb1 HX HY HZ HW HS HR
  go_wp2
  refine bodyPost_ret (v := .agg #[.int .i64 pc, .slice (some ⟨w.heap.size + 3, 0, none⟩) n n]) (by simp [results, Try.results178, go_sem, ky]) rfl ⟨w.heap.size + 3, rfl, by omega, ?_, ?_⟩
  · unfold RowAt
    rw [Below.heap_setCell _ _ _ _ (by simp), Below.heap_setCell _ _ _ _ (by simp), Below.heap_setCell _ _ _ _ (by simp)]
    exact HROW.out
  · exact ((HW1.out.setCell (by simp; omega) _).setCell (by simp) _).setCell (by simp) _
theorem eqC (a b : Option Addr) (pc : Int) (l : List Int) (n ca cb : Nat) (hl : l.length = n) (hn : n ≤ 1048576) (w : World) (ha : Rd w a l) (hb : Rd w b l) :
    Calls Try.prog 184 #[.agg #[.int .i64 pc, .slice a n ca], .agg #[.int .i64 pc, .slice b n cb]] w fun e w' => e = .returned (.bool true) ∧ Below w.heap.size w w' := by
  have HB : Hid (Below w.heap.size w ((w.alloc (.cells #[.int .i64 pc, .slice a n ca] 98)).alloc (.cells #[.int .i64 pc, .slice b n cb] 98))) := ((Below.refl _ _).alloc (Nat.le_refl _) _).alloc (by simp) _
  have HRa : Hid (Rd _ _ _) := ha.keep HB.out (Nat.le_refl _)
  have HRb : Hid (Rd _ _ _) := hb.keep HB.out (Nat.le_refl _)
  have HL : Hid (l.length = n) := hl
  clear ha hb hl
  go_enter Try.func184, Try.ntmps184
  go_wp2_with fail
  refine (C.eqInts a b l n ca cb HL.out hn _ HRa.out HRb.out).mono ?_
  rintro e w1 ⟨rfl, hb1⟩
  have HW : Hid (Below w.heap.size w w1) := HB.out.trans (hb1.mono HB.out.size)
  clear hb1
  go_wp2
  go_ret
  exact ⟨rfl, HW.out⟩
set_option maxRecDepth 100000 in
set_option maxHeartbeats 1000000 in
theorem toPt (st pc ss en la : Int) (a : Option Addr) (l : List Int) (n cap : Nat) (hl : l.length = n) (hn : n ≤ 1048576) (w : World) (hr : Rd w a l) :
    Calls Try.prog 123 #[.agg #[.int .i64 st, .int .i64 pc, .slice a n cap, .int .i64 ss, .int .i64 en, .int .i64 la]] w fun e w' => ∃ g, e = .returned (.agg #[.int .i64 st, .int .i64 pc, .slice (some ⟨g, 0, none⟩) n n, .int .i64 ss, .int .i64 en, .int .i64 la]) ∧ w.heap.size + 2 < g ∧ RowAt w' g l ∧ Below w.heap.size w w' := by
  have HX : Hid (_ = _) := al3_1 w (.cells #[.int .i64 st, .int .i64 pc, .slice a n cap, .int .i64 ss, .int .i64 en, .int .i64 la] 211) (.cells #[.int .i64 0, .int .i64 0, .slice none 0 0, .int .i64 0, .int .i64 0, .int .i64 0] 100) (.cells #[.int .i64 st, .int .i64 0, .slice none 0 0, .int .i64 0, .int .i64 0, .int .i64 0] 100)
  have HY : Hid (_ = _) := al3_2 w (.cells #[.int .i64 st, .int .i64 pc, .slice a n cap, .int .i64 ss, .int .i64 en, .int .i64 la] 211) (.cells #[.int .i64 0, .int .i64 0, .slice none 0 0, .int .i64 0, .int .i64 0, .int .i64 0] 100) (.cells #[.int .i64 st, .int .i64 0, .slice none 0 0, .int .i64 0, .int .i64 0, .int .i64 0] 100)
  have HZ : Hid (_ = _) := al3_3 w (.cells #[.int .i64 st, .int .i64 pc, .slice a n cap, .int .i64 ss, .int .i64 en, .int .i64 la] 211) (.cells #[.int .i64 0, .int .i64 0, .slice none 0 0, .int .i64 0, .int .i64 0, .int .i64 0] 100) (.cells #[.int .i64 st, .int .i64 0, .slice none 0 0, .int .i64 0, .int .i64 0, .int .i64 0] 100)
  have HW : Hid (Below _ _ _) := al3_b w (.cells #[.int .i64 st, .int .i64 pc, .slice a n cap, .int .i64 ss, .int .i64 en, .int .i64 la] 211) (.cells #[.int .i64 0, .int .i64 0, .slice none 0 0, .int .i64 0, .int .i64 0, .int .i64 0] 100) (.cells #[.int .i64 st, .int .i64 0, .slice none 0 0, .int .i64 0, .int .i64 0, .int .i64 0] 100)
  have HS : Hid (_ = _) := al3_s w (.cells #[.int .i64 st, .int .i64 pc, .slice a n cap, .int .i64 ss, .int .i64 en, .int .i64 la] 211) (.cells #[.int .i64 0, .int .i64 0, .slice none 0 0, .int .i64 0, .int .i64 0, .int .i64 0] 100) (.cells #[.int .i64 st, .int .i64 0, .slice none 0 0, .int .i64 0, .int .i64 0, .int .i64 0] 100)
  have HR : Hid (Rd w a l) := hr
  have HL : Hid (l.length = n) := hl
  clear hr hl
  go_enter Try.func123, Try.ntmps123
  go_wp2_with fail
  refine (toC a pc l n cap HL.out hn _ (HR.out.keep HW.out (Nat.le_refl _))).mono ?_
  rintro e w1 ⟨g, rfl, hg, hrow, hb1⟩
  rw [HS.out] at hg
  have kx := box6_cells (row_on HX.out hb1)
  have ky := box6_cells (row_on HY.out hb1)
  have kz := box6_cells (row_on HZ.out hb1)
  have HROW : Hid (RowAt w1 g l) := hrow
  have HG : Hid (w.heap.size + 3 ≤ g) := hg
  have HW1 : Hid (Below w.heap.size w w1) := bel_on (Nat.le_refl _) HW.out hb1
  have HY1 : Hid (w1.heap[w.heap.size + 1]? = some (.cells #[.int .i64 0, .int .i64 0, .slice none 0 0, .int .i64 0, .int .i64 0, .int .i64 0] 100)) := row_on HY.out hb1
  have HZ1 : Hid (w1.heap[w.heap.size + 1 + 1]? = some (.cells #[.int .i64 st, .int .i64 0, .slice none 0 0, .int .i64 0, .int .i64 0, .int .i64 0] 100)) := row_on HZ.out hb1
  clear hrow hb1 HX HY HZ HW HS HR hg
  have HR2 : Hid ((((((w1.setCell ⟨w.heap.size + 1 + 1, 1, none⟩ (.int .i64 pc)).setCell ⟨w.heap.size + 1 + 1, 2, none⟩ (.slice (some ⟨g, 0, none⟩) n n)).setCell ⟨w.heap.size + 1 + 1, 3, none⟩ (.int .i64 ss)).setCell ⟨w.heap.size + 1 + 1, 4, none⟩ (.int .i64 en)).setCell ⟨w.heap.size + 1 + 1, 5, none⟩ (.int .i64 la)).heap[w.heap.size + 1 + 1]? = some (.cells #[.int .i64 st, .int .i64 pc, .slice (some ⟨g, 0, none⟩) n n, .int .i64 ss, .int .i64 en, .int .i64 la] 100)) := set_row5 (set_row5 (set_row5 (set_row5 (set_row5 HZ1.out 1 _) 2 _) 3 _) 4 _) 5 _
  have HZ2 : Hid ((((((w1.setCell ⟨w.heap.size + 1 + 1, 1, none⟩ (.int .i64 pc)).setCell ⟨w.heap.size + 1 + 1, 2, none⟩ (.slice (some ⟨g, 0, none⟩) n n)).setCell ⟨w.heap.size + 1 + 1, 3, none⟩ (.int .i64 ss)).setCell ⟨w.heap.size + 1 + 1, 4, none⟩ (.int .i64 en)).setCell ⟨w.heap.size + 1 + 1, 5, none⟩ (.int .i64 la)).heap[w.heap.size + 1]? = some (.cells #[.int .i64 0, .int .i64 0, .slice none 0 0, .int .i64 0, .int .i64 0, .int .i64 0] 100)) := set_far (set_far (set_far (set_far (set_far HY1.out (by omega)) (by omega)) (by omega)) (by omega)) (by omega)
  have HRW2 : Hid (RowAt (((((w1.setCell ⟨w.heap.size + 1 + 1, 1, none⟩ (.int .i64 pc)).setCell ⟨w.heap.size + 1 + 1, 2, none⟩ (.slice (some ⟨g, 0, none⟩) n n)).setCell ⟨w.heap.size + 1 + 1, 3, none⟩ (.int .i64 ss)).setCell ⟨w.heap.size + 1 + 1, 4, none⟩ (.int .i64 en)).setCell ⟨w.heap.size + 1 + 1, 5, none⟩ (.int .i64 la)) g l) := set_far (set_far (set_far (set_far (set_far HROW.out (by have := HG.out; omega)) (by have := HG.out; omega)) (by have := HG.out; omega)) (by have := HG.out; omega)) (by have := HG.out; omega)
  have HW2 : Hid (Below w.heap.size w (((((w1.setCell ⟨w.heap.size + 1 + 1, 1, none⟩ (.int .i64 pc)).setCell ⟨w.heap.size + 1 + 1, 2, none⟩ (.slice (some ⟨g, 0, none⟩) n n)).setCell ⟨w.heap.size + 1 + 1, 3, none⟩ (.int .i64 ss)).setCell ⟨w.heap.size + 1 + 1, 4, none⟩ (.int .i64 en)).setCell ⟨w.heap.size + 1 + 1, 5, none⟩ (.int .i64 la))) := ((((HW1.out.setCell (show w.heap.size ≤ w.heap.size + 1 + 1 by omega) _).setCell (show w.heap.size ≤ w.heap.size + 1 + 1 by omega) _).setCell (show w.heap.size ≤ w.heap.size + 1 + 1 by omega) _).setCell (show w.heap.size ≤ w.heap.size + 1 + 1 by omega) _).setCell (show w.heap.size ≤ w.heap.size + 1 + 1 by omega) _
  clear HY1 HZ1 HROW HW1
  go_upto_region 7 with fail
  obtain ⟨w2, hw2⟩ : ∃ x, x = (((((w1.setCell ⟨w.heap.size + 1 + 1, 1, none⟩ (.int .i64 pc)).setCell ⟨w.heap.size + 1 + 1, 2, none⟩ (.slice (some ⟨g, 0, none⟩) n n)).setCell ⟨w.heap.size + 1 + 1, 3, none⟩ (.int .i64 ss)).setCell ⟨w.heap.size + 1 + 1, 4, none⟩ (.int .i64 en)).setCell ⟨w.heap.size + 1 + 1, 5, none⟩ (.int .i64 la)) := ⟨_, rfl⟩
  rw [← hw2] at HR2 HZ2 HRW2 HW2 ⊢
  clear hw2 kx ky kz
  have k2 := box6_cells HR2.out
  have z2 := box6_cells HZ2.out
  go_wp2
  refine bodyPost_ret (v := .agg #[.int .i64 st, .int .i64 pc, .slice (some ⟨g, 0, none⟩) n n, .int .i64 ss, .int .i64 en, .int .i64 la]) (by simp [results, Try.results123, go_sem, z2]) rfl ⟨g, rfl, by have := HG.out; omega, ?_, ?_⟩
  · exact set_far (set_far (set_far (set_far (set_far (set_far HRW2.out (by have := HG.out; omega)) (by have := HG.out; omega)) (by have := HG.out; omega)) (by have := HG.out; omega)) (by have := HG.out; omega)) (by have := HG.out; omega)
  · exact (((((HW2.out.setCell (show w.heap.size ≤ w.heap.size + 1 by omega) _).setCell (show w.heap.size ≤ w.heap.size + 1 by omega) _).setCell (show w.heap.size ≤ w.heap.size + 1 by omega) _).setCell (show w.heap.size ≤ w.heap.size + 1 by omega) _).setCell (show w.heap.size ≤ w.heap.size + 1 by omega) _).setCell (show w.heap.size ≤ w.heap.size + 1 by omega) _
/-- the first j copied, the rest still 0: the rows' values -/
def valsP (l : List PX) (b : Nat → Nat) (n j : Nat) : List PV := (List.range n).map fun i => if h : i < j ∧ i < l.length then pvOf (l[i]'h.2) (some ⟨b i, 0, none⟩) (l[i]'h.2).sk.length else zeroP
theorem valsP_len (l : List PX) (b : Nat → Nat) (n j : Nat) : (valsP l b n j).length = n := by simp [valsP]
theorem valsP_zero (l : List PX) (b : Nat → Nat) (n : Nat) : valsP l b n 0 = List.replicate n zeroP := by
  apply List.ext_getElem
  · simp [valsP]
  · intro i h1 h2
    simp [valsP]
theorem valsP_set (l : List PX) (b : Nat → Nat) (n j g : Nat) (hl : l.length = n) (hj : j < n) (hj' : j < l.length) : (valsP l b n j).set j (pvOf l[j] (some ⟨g, 0, none⟩) l[j].sk.length) = valsP l (fun i => if i = j then g else b i) n (j + 1) := by
  apply List.ext_getElem
  · simp [valsP]
  · intro i h1 h2
    have hi : i < n := by simpa [valsP] using h2
    rw [List.getElem_set]
    by_cases e : j = i
    · subst e
      simp [valsP, hj']
    · have e' : i ≠ j := fun h => e h.symm
      have hlt : i < j + 1 ↔ i < j := by omega
      simp [valsP, e, e', hlt]
theorem valsP_at (l : List PX) (b : Nat → Nat) (n : Nat) (hl : l.length = n) (j : Nat) (h : j < l.length) (h' : j < (valsP l b n n).length) : (valsP l b n n)[j] = pvOf l[j] (some ⟨b j, 0, none⟩) l[j].sk.length := by
  have hj : j < n := by omega
  simp [valsP, hj, h]
/-- how far the copying of parts has come -/
structure UpP (w wr : World) (g : Nat) (l : List PX) (n j : Nat) : Prop where
  ex : ∃ b : Nat → Nat, RowQ wr g (valsP l b n j) ∧ ∀ i (h : i < l.length), i < j → g < b i ∧ RowAt wr (b i) l[i].sk
  bel : Below w.heap.size w wr
theorem UpP.own {w wr : World} {g : Nat} {l : List PX} {n : Nat} (h : UpP w wr g l n n) (hl : l.length = n) : OwnP wr g (some ⟨g, 0, none⟩) l := by
  obtain ⟨b, hr, hb⟩ := h.ex
  exact ⟨g, b, _, rfl, Nat.le_refl _, hr, by rw [valsP_len, hl], fun j h h' => ⟨valsP_at l b n hl j h h', Nat.le_of_lt (hb j h (by omega)).1, (hb j h (by omega)).2⟩⟩
theorem UpP.step {w wr w1 : World} {g g1 m : Nat} {l : List PX} {n j : Nat} {st pc ss en la : Int} {sk : List Int} (h : UpP w wr g l n j) (hw : w.heap.size ≤ g) (hl : l.length = n) (hj : j < n) (hj' : j < l.length) (hp : (⟨st, pc, sk, ss, en, la⟩ : PX) = l[j]) (hm : sk.length = m) (hb : Below wr.heap.size wr w1) (hg : wr.heap.size < g1) (hrow : RowAt w1 g1 sk) :
    UpP w ((((((w1.setCell ⟨g, j * 6, none⟩ (.int .i64 st)).setCell ⟨g, j * 6 + 1, none⟩ (.int .i64 pc)).setCell ⟨g, j * 6 + 2, none⟩ (.slice (some ⟨g1, 0, none⟩) m m)).setCell ⟨g, j * 6 + 3, none⟩ (.int .i64 ss)).setCell ⟨g, j * 6 + 4, none⟩ (.int .i64 en)).setCell ⟨g, j * 6 + 5, none⟩ (.int .i64 la)) g l n (j + 1) := by
  obtain ⟨b, hr, hbb⟩ := h.ex
  have hgl : g < wr.heap.size := hr.lt
  have hr1 : RowQ w1 g (valsP l b n j) := hr.on hb
  have hs := hr1.set j (.int .i64 st) (.int .i64 pc) (.slice (some ⟨g1, 0, none⟩) m m) (.int .i64 ss) (.int .i64 en) (.int .i64 la)
  have he : pvOf l[j] (some ⟨g1, 0, none⟩) l[j].sk.length = ((.int .i64 st), (.int .i64 pc), (.slice (some ⟨g1, 0, none⟩) m m), (.int .i64 ss), (.int .i64 en), (.int .i64 la)) := by rw [← hp, ← hm]; rfl
  rw [← he, valsP_set l b n j g1 hl hj hj'] at hs
  refine ⟨⟨_, hs, fun i hi hij => ?_⟩, ?_⟩
  · by_cases e : i = j
    · subst e
      have hsk : l[i].sk = sk := by rw [← hp]
      simp only [if_true, hsk]
      refine ⟨by omega, ?_⟩
      unfold RowAt
      repeat rw [Below.heap_setCell _ _ _ _ (show g1 ≠ g by omega)]
      exact hrow
    · simp only [e, if_false]
      obtain ⟨h1, h2⟩ := hbb i hi (by omega)
      refine ⟨h1, ?_⟩
      have h3 := RowAt.keep h2 hb (h2.lt)
      unfold RowAt at h3 ⊢
      repeat rw [Below.heap_setCell _ _ _ _ (show b i ≠ g by omega)]
      exact h3
  · repeat (refine Below.setCell ?_ hw _)
    exact bel_on (Nat.le_refl _) h.bel hb
set_option maxRecDepth 100000 in
set_option maxHeartbeats 2000000 in
theorem toPs (a : Option Addr) (l : List PX) (n cap : Nat) (hl : l.length = n) (hn : n ≤ 1048576) (hs : ∀ j (h : j < l.length), l[j].sk.length ≤ 1048576) (w : World) (hr : RdP w a l) :
    Calls Try.prog 66 #[.slice a n cap] w fun e w' => e = .returned (.slice (some ⟨w.heap.size, 0, none⟩) n n) ∧ OwnP w' w.heap.size (some ⟨w.heap.size, 0, none⟩) l ∧ Below w.heap.size w w' := by
  have HL : Hid (l.length = n) := hl
  have HS : Hid (∀ j (h : j < l.length), l[j].sk.length ≤ 1048576) := hs
  have HU0 : Hid (UpP w (w.alloc (.cells (parV (List.replicate n zeroP)).toArray 100)) w.heap.size l n 0) := ⟨⟨fun _ => 0, by rw [valsP_zero]; exact heap_new w _, fun i h h' => by omega⟩, (Below.refl w.heap.size w).alloc (Nat.le_refl _) _⟩
  have hmk := makeQ n hn
  clear hl hs
  by_cases hp : 0 < n
  · obtain ⟨g, off, rfl, hc⟩ := hr (by have := HL.out; omega)
    have HC : Hid (∀ j (h : j < l.length), CelP w g (off + j * 6) l[j]) := hc
    clear hr hc
    go_enter Try.func66, Try.ntmps66
    go_wp2
    go_loopg [4] n (fun gk i wr => ∃ j : Nat, j + gk = n ∧ i = .int .i64 j ∧ Hid (UpP w wr w.heap.size l n j))
    case atStart => exact ⟨0, by omega, rfl, HU0⟩
    case round =>
      clear HU0
      obtain ⟨j, hj, rfl, HU⟩ := hrel
      by_cases hlt : j < n
      · have hjl : j < l.length := by have := HL.out; omega
        have hsz := HS.out j hjl
        have c := (HC.out j hjl).keep HU.out.bel (Nat.le_refl _)
        obtain ⟨P, hP⟩ : ∃ P, P = l[j] := ⟨_, rfl⟩
        rw [← hP] at c hsz
        have HP : Hid (P = l[j]) := hP
        clear hP
        obtain ⟨st, pc, sk, ss, en, la⟩ := P
        obtain ⟨c0, c1, ⟨b, cc, c2, _, hrd⟩, c3, c4, c5⟩ := c
        dsimp only at c0 c1 c2 c3 c4 c5 hrd hsz
        obtain ⟨m, hm⟩ : ∃ m, sk.length = m := ⟨_, rfl⟩
        rw [hm] at c2 hsz
        have HM : Hid (sk.length = m) := hm
        have HRD : Hid (Rd wr b sk) := hrd
        clear hm hrd
        go_wp2_with fail
        refine (toPt st pc ss en la b sk m cc HM.out hsz _ HRD.out).mono ?_
        rintro e w1 ⟨g1, rfl, hg1, hrow, hb1⟩
        obtain ⟨v, hv, hq1⟩ : ∃ v, v.length = n ∧ RowQ w1 w.heap.size v := by
          obtain ⟨bb, hr, _⟩ := HU.out.ex
          exact ⟨_, valsP_len l bb n j, hr.on hb1⟩
        have hu : j < v.length := by omega
        have d := hq1.cell j hu
        have d0 := hq1.free (j * 6)
        have d1 := hq1.free (j * 6 + 1)
        have d2 := hq1.free (j * 6 + 2)
        have d3 := hq1.free (j * 6 + 3)
        have d4 := hq1.free (j * 6 + 4)
        have d5 := hq1.free (j * 6 + 5)
        have HU2 : Hid (UpP w ((((((w1.setCell ⟨w.heap.size, j * 6, none⟩ (.int .i64 st)).setCell ⟨w.heap.size, j * 6 + 1, none⟩ (.int .i64 pc)).setCell ⟨w.heap.size, j * 6 + 2, none⟩ (.slice (some ⟨g1, 0, none⟩) m m)).setCell ⟨w.heap.size, j * 6 + 3, none⟩ (.int .i64 ss)).setCell ⟨w.heap.size, j * 6 + 4, none⟩ (.int .i64 en)).setCell ⟨w.heap.size, j * 6 + 5, none⟩ (.int .i64 la)) w.heap.size l n (j + 1)) := HU.out.step (Nat.le_refl _) HL.out hlt hjl HP.out HM.out hb1 (by omega) hrow
        generalize v[j].1 = q0 at d
        generalize v[j].2.1 = q1 at d
        generalize v[j].2.2.1 = q2 at d
        generalize v[j].2.2.2.1 = q3 at d
        generalize v[j].2.2.2.2.1 = q4 at d
        generalize v[j].2.2.2.2.2 = q5 at d
        clear hb1 HU hu hq1 hv c0 c1 c2 c3 c4 c5 HRD HM HP hrow hg1 hsz
        go_wp2
        go_roundg (gk - 1)
        case measure => omega
        case rel => exact ⟨j + 1, by omega, by go_num, HU2⟩
      · obtain rfl : j = n := by omega
        have HO : Hid (OwnP wr w.heap.size (some ⟨w.heap.size, 0, none⟩) l) := HU.out.own HL.out
        go_wp2
        go_ret
        exact ⟨rfl, HO.out, HU.out.bel⟩
  · obtain rfl : n = 0 := by omega
    have HO : Hid (OwnP (w.alloc (.cells (parV (List.replicate 0 zeroP)).toArray 100)) w.heap.size (some ⟨w.heap.size, 0, none⟩) l) := HU0.out.own HL.out
    clear hr hp
    have hmk0 : ∀ w : World, (Instr.makeSlice 34 (.int .i64 0) (.int .i64 0)).run Try.prog w = .ok (.slice (some ⟨w.heap.size, 0, none⟩) 0 0) (w.alloc (.cells (parV (List.replicate 0 zeroP)).toArray 100)) := hmk
    clear hmk
    go_enter Try.func66, Try.ntmps66
    go_wp2
    go_rounds 1
    go_ret
    exact ⟨rfl, HO.out, HU0.out.bel⟩
end Go.Proofs.Ytfdhcchakoldpaa
