/-
  Parts of a kernel: copied, compared, sized, as they came in.
-/
import Derived.Test.YtphijlknefgkiaaGreatDoorKPar
import Derived.Test.YtphijlknefgkiaaGreatDoorFaultM
import Derived.Deep.CutBlock
namespace Go.Proofs.YtphijlknefgkiaaGreatDoor
open Go.ChangeShapes Go.WideShapes Go.ChangeAt Go.RowKit Go.PlainAid
set_option linter.unusedVariables false

theorem box6_cells {w : World} {k : Nat} {t : TypeId} {x0 x1 x2 x3 x4 x5 : Value} (h : w.heap[k]? = some (.cells #[x0, x1, x2, x3, x4, x5] t)) :
    (w.cell? ⟨k, 0, none⟩ = some x0 ∧ w.cell? ⟨k, 1, none⟩ = some x1 ∧ w.cell? ⟨k, 2, none⟩ = some x2 ∧ w.cell? ⟨k, 3, none⟩ = some x3 ∧ w.cell? ⟨k, 4, none⟩ = some x4 ∧ w.cell? ⟨k, 5, none⟩ = some x5) ∧ w.frozen? ⟨k, 0, none⟩ = false ∧ w.frozen? ⟨k, 1, none⟩ = false ∧ w.frozen? ⟨k, 2, none⟩ = false ∧ w.frozen? ⟨k, 3, none⟩ = false ∧ w.frozen? ⟨k, 4, none⟩ = false ∧ w.frozen? ⟨k, 5, none⟩ = false := by
  refine ⟨⟨?_, ?_, ?_, ?_, ?_, ?_⟩, ?_, ?_, ?_, ?_, ?_, ?_⟩ <;> simp [World.cell?, World.frozen?, h]
/-- two boxes of a machine and one of another, laid one behind the other -/
theorem box3 (w : World) (x y x' y' x'' y'' : Value) (t r q : TypeId) :
    (((w.alloc (.cells #[x, y] t)).alloc (.cells #[x', y'] r)).alloc (.cells #[x'', y''] q)).heap[w.heap.size]? = some (.cells #[x, y] t) ∧ (((w.alloc (.cells #[x, y] t)).alloc (.cells #[x', y'] r)).alloc (.cells #[x'', y''] q)).heap[w.heap.size + 1]? = some (.cells #[x', y'] r) ∧ (((w.alloc (.cells #[x, y] t)).alloc (.cells #[x', y'] r)).alloc (.cells #[x'', y''] q)).heap[w.heap.size + 2]? = some (.cells #[x'', y''] q) ∧ Below w.heap.size w (((w.alloc (.cells #[x, y] t)).alloc (.cells #[x', y'] r)).alloc (.cells #[x'', y''] q)) ∧ (((w.alloc (.cells #[x, y] t)).alloc (.cells #[x', y'] r)).alloc (.cells #[x'', y''] q)).heap.size = w.heap.size + 3 := by
  have h0 := heap_new w (.cells #[x, y] t)
  have h1 := heap_new (w.alloc (.cells #[x, y] t)) (.cells #[x', y'] r)
  have h2 := heap_new ((w.alloc (.cells #[x, y] t)).alloc (.cells #[x', y'] r)) (.cells #[x'', y''] q)
  refine ⟨(Below.heap_alloc _ _ _ (by simp; omega)).trans ((Below.heap_alloc _ _ _ (by simp)).trans h0), (Below.heap_alloc _ _ _ (by simp)).trans (by simpa using h1), by simpa using h2, (((Below.refl _ _).alloc (Nat.le_refl _) _).alloc (by simp) _).alloc (by simp; omega) _, by simp⟩
theorem eqC (a b : Option Addr) (pc : Int) (l : List Int) (n ca cb : Nat) (hl : l.length = n) (hn : n ≤ 1048576) (w : World) (ha : Rd w a l) (hb : Rd w b l) :
    Calls Tryz.prog 99 #[.agg #[.int .i64 pc, .slice a n ca], .agg #[.int .i64 pc, .slice b n cb]] w fun e w' => e = .returned (.bool true) ∧ Below w.heap.size w w' := by
  have HB : Hid (Below w.heap.size w ((w.alloc (.cells #[.int .i64 pc, .slice a n ca] 121)).alloc (.cells #[.int .i64 pc, .slice b n cb] 121))) := ((Below.refl _ _).alloc (Nat.le_refl _) _).alloc (by simp) _
  have HRa : Hid (Rd _ _ _) := ha.keep HB.out (Nat.le_refl _)
  have HRb : Hid (Rd _ _ _) := hb.keep HB.out (Nat.le_refl _)
  have HL : Hid (l.length = n) := hl
  clear ha hb hl
  go_enter Tryz.func99, Tryz.ntmps99
  go_wp2_with fail
  refine (C.eqInts a b l n ca cb HL.out hn _ HRa.out HRb.out).mono ?_
  rintro e w1 ⟨rfl, hb1⟩
  have HW : Hid (Below w.heap.size w w1) := HB.out.trans (hb1.mono HB.out.size)
  clear hb1
  go_wp2
  go_ret
  exact ⟨rfl, HW.out⟩
/-- the first j copied, the rest still 0: the rows' values -/
def valsP (l : List PX) (b : Nat → Nat) (n j : Nat) : List PV := (List.range n).map fun i => if h : i < j ∧ i < l.length then pvOf (l[i]'h.2) (some ⟨b i, 0, none⟩) (l[i]'h.2).sk.length else zeroP
theorem valsP_len (l : List PX) (b : Nat → Nat) (n j : Nat) : (valsP l b n j).length = n := by simp [valsP]
theorem valsP_zero (l : List PX) (b : Nat → Nat) (n : Nat) : valsP l b n 0 = List.replicate n zeroP := by
  apply List.ext_getElem
  · simp [valsP]
  · intro i h1 h2
    simp [valsP]
theorem valsP_set (l : List PX) (b : Nat → Nat) (n j g : Nat) (hl : l.length = n) (hj : j < n) (hj' : j < l.length) : (valsP l b n j).set j (pvOf l[j] (some ⟨g, 0, none⟩) l[j].sk.length) = valsP l (fun i => if i = j then g else b i) n (j + 1) := by
  apply List.ext_getElem
  · simp [valsP]
  · intro i h1 h2
    have hi : i < n := by simpa [valsP] using h2
    rw [List.getElem_set]
    by_cases e : j = i
    · subst e
      simp [valsP, hj']
    · have e' : i ≠ j := fun h => e h.symm
      have hlt : i < j + 1 ↔ i < j := by omega
      simp [valsP, e, e', hlt]
theorem valsP_at (l : List PX) (b : Nat → Nat) (n : Nat) (hl : l.length = n) (j : Nat) (h : j < l.length) (h' : j < (valsP l b n n).length) : (valsP l b n n)[j] = pvOf l[j] (some ⟨b j, 0, none⟩) l[j].sk.length := by
  have hj : j < n := by omega
  simp [valsP, hj, h]
/-- how far the copying of parts has come -/
structure UpP (w wr : World) (g : Nat) (l : List PX) (n j : Nat) : Prop where
  ex : ∃ b : Nat → Nat, RowQ wr g (valsP l b n j) ∧ ∀ i (h : i < l.length), i < j → g < b i ∧ RowAt wr (b i) l[i].sk
  bel : Below w.heap.size w wr
theorem UpP.own {w wr : World} {g : Nat} {l : List PX} {n : Nat} (h : UpP w wr g l n n) (hl : l.length = n) : OwnP wr g (some ⟨g, 0, none⟩) l := by
  obtain ⟨b, hr, hb⟩ := h.ex
  exact ⟨g, b, _, rfl, Nat.le_refl _, hr, by rw [valsP_len, hl], fun j h h' => ⟨valsP_at l b n hl j h h', Nat.le_of_lt (hb j h (by omega)).1, (hb j h (by omega)).2⟩⟩
theorem UpP.step {w wr w1 : World} {g g1 m : Nat} {l : List PX} {n j : Nat} {st pc ss en la : Int} {sk : List Int} (h : UpP w wr g l n j) (hw : w.heap.size ≤ g) (hl : l.length = n) (hj : j < n) (hj' : j < l.length) (hp : (⟨st, pc, sk, ss, en, la⟩ : PX) = l[j]) (hm : sk.length = m) (hb : Below wr.heap.size wr w1) (hg : wr.heap.size < g1) (hrow : RowAt w1 g1 sk) :
    UpP w ((((((w1.setCell ⟨g, j * 6, none⟩ (.int .i64 st)).setCell ⟨g, j * 6 + 1, none⟩ (.int .i64 pc)).setCell ⟨g, j * 6 + 2, none⟩ (.slice (some ⟨g1, 0, none⟩) m m)).setCell ⟨g, j * 6 + 3, none⟩ (.int .i64 ss)).setCell ⟨g, j * 6 + 4, none⟩ (.int .i64 en)).setCell ⟨g, j * 6 + 5, none⟩ (.int .i64 la)) g l n (j + 1) := by
  obtain ⟨b, hr, hbb⟩ := h.ex
  have hgl : g < wr.heap.size := hr.lt
  have hr1 : RowQ w1 g (valsP l b n j) := hr.on hb
  have hs := hr1.set j (.int .i64 st) (.int .i64 pc) (.slice (some ⟨g1, 0, none⟩) m m) (.int .i64 ss) (.int .i64 en) (.int .i64 la)
  have he : pvOf l[j] (some ⟨g1, 0, none⟩) l[j].sk.length = ((.int .i64 st), (.int .i64 pc), (.slice (some ⟨g1, 0, none⟩) m m), (.int .i64 ss), (.int .i64 en), (.int .i64 la)) := by rw [← hp, ← hm]; rfl
  rw [← he, valsP_set l b n j g1 hl hj hj'] at hs
  refine ⟨⟨_, hs, fun i hi hij => ?_⟩, ?_⟩
  · by_cases e : i = j
    · subst e
      have hsk : l[i].sk = sk := by rw [← hp]
      simp only [if_true, hsk]
      refine ⟨by omega, ?_⟩
      unfold RowAt
      repeat rw [Below.heap_setCell _ _ _ _ (show g1 ≠ g by omega)]
      exact hrow
    · simp only [e, if_false]
      obtain ⟨h1, h2⟩ := hbb i hi (by omega)
      refine ⟨h1, ?_⟩
      have h3 := RowAt.keep h2 hb (h2.lt)
      unfold RowAt at h3 ⊢
      repeat rw [Below.heap_setCell _ _ _ _ (show b i ≠ g by omega)]
      exact h3
  · repeat (refine Below.setCell ?_ hw _)
    exact bel_on (Nat.le_refl _) h.bel hb
end Go.Proofs.YtphijlknefgkiaaGreatDoor
