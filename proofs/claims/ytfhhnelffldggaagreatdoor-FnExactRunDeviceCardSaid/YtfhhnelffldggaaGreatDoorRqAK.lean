/-
  The mathematics of a device: orders one behind the other, a tick, ticks.
-/
import Derived.Test.YtfhhnelffldggaaGreatDoorRqAB
import Derived.Test.YtfhhnelffldggaaGreatDoorRqAG
import Derived.Test.YtfhhnelffldggaaGreatDoorRqAH
import Derived.Test.YtfhhnelffldggaaGreatDoorRqAJ
import Derived.Test.YtfhhnelffldggaaGreatDoorRqAE
import Derived.Deep.Strs
import Derived.OpenShut
import Derived.ChangeSame
import Derived.ChangeOld
set_option maxRecDepth 100000
set_option maxHeartbeats 16000000
namespace Go.Proofs.YtfhhnelffldggaaGreatDoor
open Go.RowKit Go.PlainAid
set_option linter.unusedVariables false
set_option linter.unusedSimpArgs false
structure Tks where
  p : Pm
  r : Int
  s : Bool
def stepK (x : Tks) (o : Od4) : Tks := if o.1 = 5 then ⟨x.p, x.r, true⟩ else ⟨(x.p.take o.1 o.2.1 o.2.2.1 o.2.2.2).1, if (x.p.take o.1 o.2.1 o.2.2.1 o.2.2.2).2 = true then x.r else x.r + 1, x.s⟩
def takeL (x : Tks) (l : List Od4) : Tks := l.foldl stepK x
theorem takeL_cons (x : Tks) (o : Od4) (l : List Od4) : takeL x (o :: l) = takeL (stepK x o) l := rfl
theorem takeL_app (x : Tks) (l k : List Od4) : takeL x (l ++ k) = takeL (takeL x l) k := List.foldl_append ..
theorem takeL_take {l : List Od4} {j : Nat} (h : j < l.length) (x : Tks) : takeL x (l.take (j + 1)) = stepK (takeL x (l.take j)) l[j] := by
  rw [← List.take_append_getElem h, takeL_app]
  rfl
theorem stepK_seen {x : Tks} {o : Od4} (h : o.1 = 5) : stepK x o = ⟨x.p, x.r, true⟩ := if_pos h
theorem stepK_take {x : Tks} {o : Od4} (h : ¬ o.1 = 5) : stepK x o = ⟨(x.p.take o.1 o.2.1 o.2.2.1 o.2.2.2).1, if (x.p.take o.1 o.2.1 o.2.2.1 o.2.2.2).2 = true then x.r else x.r + 1, x.s⟩ := if_neg h
theorem take_g (p : Pm) (k n d v : Int) : (p.take k n d v).1.g = p.g := by
  unfold Pm.take
  repeat' split
  all_goals rfl
theorem stepK_ok {x : Tks} (h : x.p.ok) (o : Od4) : (stepK x o).p.ok ∧ (stepK x o).p.g = x.p.g ∧ x.r ≤ (stepK x o).r ∧ (stepK x o).r ≤ x.r + 1 := by
  by_cases h5 : o.1 = 5
  · rw [stepK_seen h5]
    exact ⟨h, rfl, Int.le_refl _, by show x.r ≤ x.r + 1; omega⟩
  · rw [stepK_take h5]
    refine ⟨take_ok h _ _ _ _, take_g _ _ _ _ _, ?_, ?_⟩
    all_goals dsimp only; split <;> omega
theorem takeL_ok : ∀ (l : List Od4) {x : Tks}, x.p.ok → (takeL x l).p.ok ∧ (takeL x l).p.g = x.p.g ∧ x.r ≤ (takeL x l).r ∧ (takeL x l).r ≤ x.r + l.length
  | [], x, h => ⟨h, rfl, Int.le_refl _, by simp [takeL]⟩
  | o :: l, x, h => by
    obtain ⟨h1, h2, h3, h4⟩ := stepK_ok h o
    obtain ⟨g1, g2, g3, g4⟩ := takeL_ok l h1
    rw [takeL_cons]
    refine ⟨g1, g2.trans h2, by omega, ?_⟩
    rw [List.length_cons]
    omega
structure Dv where
  p : Pm
  l : List Int
  al : Int
  m : Mn
  t : List Tk3
  rf : Int
def newD : Dv := ⟨newP, [], 0, newM, [], 0⟩
structure Ic where
  b : Int
  ks : List UInt8
  lo : List Od4
  lr : Int
def ordsD (D : Dv) (i : Ic) : Tks := takeL ⟨D.p, D.rf + i.lr, false⟩ ((allM D.m i.ks).2 ++ i.lo)
def alD (D : Dv) (i : Ic) : Int := G.feelA true D.al i.b (ordsD D i).s
def numD (D : Dv) (i : Ic) : Int := if alD D i = 0 then G.letG D.l (ordsD D i).p.wants else 0
def pmpD (D : Dv) (i : Ic) : Pm := if alD D i = 0 then (ordsD D i).p.give (numD D i) else (ordsD D i).p
def tickD (D : Dv) (i : Ic) : Dv := ⟨pmpD D i, G.passL true D.l (numD D i), alD D i, (allM D.m i.ks).1, D.t ++ [(numD D i, alD D i, (pmpD D i).s)], (ordsD D i).r⟩
def runD (D : Dv) (l : List Ic) : Dv := l.foldl tickD D
theorem runD_cons (D : Dv) (i : Ic) (l : List Ic) : runD D (i :: l) = runD (tickD D i) l := rfl
theorem runD_app (D : Dv) (l k : List Ic) : runD D (l ++ k) = runD (runD D l) k := List.foldl_append ..
theorem runD_take {l : List Ic} {j : Nat} (h : j < l.length) (D : Dv) : runD D (l.take (j + 1)) = tickD (runD D (l.take j)) l[j] := by
  rw [← List.take_append_getElem h, runD_app]
  rfl
def Ic.ok (i : Ic) : Prop := (0 ≤ i.b ∧ i.b ≤ 15) ∧ i.ks.length ≤ 20 ∧ (i.lo = [] ∨ ∃ o, i.lo = [o]) ∧ (0 ≤ i.lr ∧ i.lr ≤ 1) ∧ (∀ o ∈ i.lo, OrdR o.1 o.2.1 o.2.2.1 o.2.2.2)
structure Dv.ok (D : Dv) : Prop where
  p : D.p.ok
  g : G.GdR D.l D.al
  m : GdM D.m
  r : 0 ≤ D.rf
theorem newD_ok : newD.ok := ⟨new_ok, G.gd_new, GdM.new, Int.le_refl _⟩
theorem lo_len {i : Ic} (h : i.ok) : i.lo.length ≤ 1 := by
  rcases h.2.2.1 with e | ⟨o, e⟩ <;> rw [e] <;> simp
theorem ords_ok {D : Dv} (h : D.ok) {i : Ic} (hi : i.ok) : (ordsD D i).p.ok ∧ (ordsD D i).p.g = D.p.g ∧ D.rf ≤ (ordsD D i).r ∧ (ordsD D i).r ≤ D.rf + 22 := by
  obtain ⟨h1, h2, h3, h4⟩ := takeL_ok ((allM D.m i.ks).2 ++ i.lo) (x := ⟨D.p, D.rf + i.lr, false⟩) h.p
  have e1 := allM_len i.ks D.m
  have e2 := lo_len hi
  have e3 := hi.2.1
  have e4 := hi.2.2.2.1
  rw [List.length_append] at h4
  refine ⟨h1, h2, ?_, ?_⟩
  · have : (⟨D.p, D.rf + i.lr, false⟩ : Tks).r ≤ (ordsD D i).r := h3
    dsimp only at this
    omega
  · have : (ordsD D i).r ≤ (⟨D.p, D.rf + i.lr, false⟩ : Tks).r + (((allM D.m i.ks).2.length + i.lo.length : Nat) : Int) := h4
    dsimp only at this
    omega
theorem tick_ok {D : Dv} (h : D.ok) {i : Ic} (hi : i.ok) : (tickD D i).ok ∧ (tickD D i).t.length = D.t.length + 1 ∧ (tickD D i).rf ≤ D.rf + 22 := by
  obtain ⟨h1, h2, h3, h4⟩ := ords_ok h hi
  refine ⟨⟨?_, G.passL_ok (G.feel_ok h.g true i.b _) true _, GdM.all i.ks h.m, ?_⟩, ?_, h4⟩
  · show (pmpD D i).ok
    unfold pmpD
    split
    · exact give_ok h1 _
    · exact h1
  · show 0 ≤ (ordsD D i).r
    have := h.r
    omega
  · simp [tickD]
theorem run_okD : ∀ (l : List Ic) {D : Dv}, D.ok → (∀ i ∈ l, i.ok) → (runD D l).ok ∧ (runD D l).t.length = D.t.length + l.length ∧ (runD D l).rf ≤ D.rf + 22 * l.length
  | [], D, h, _ => ⟨h, rfl, by simp [runD]⟩
  | i :: l, D, h, hl => by
    obtain ⟨h1, h2, h3⟩ := tick_ok h (hl i (List.mem_cons_self ..))
    obtain ⟨g1, g2, g3⟩ := run_okD l h1 (fun j hj => hl j (List.mem_cons_of_mem _ hj))
    rw [runD_cons]
    refine ⟨g1, ?_, ?_⟩
    · rw [g2, h2, List.length_cons]; omega
    · rw [List.length_cons]
      push_cast
      omega
def LkD (L : ByteArray) (lo : List Od4) (lr : Int) : Prop := (L.size = 0 ∧ lo = [] ∧ lr = 0) ∨ (L.size ≠ 0 ∧ ∃ k n d v b, RdOr L k n d v b ∧ ((b = true ∧ lo = [(k, n, d, v)] ∧ lr = 0) ∨ (b = false ∧ lo = [] ∧ lr = 1)))
theorem LkD.uni {L : ByteArray} {lo lo' : List Od4} {lr lr' : Int} (h : LkD L lo lr) (h' : LkD L lo' lr') : lo = lo' ∧ lr = lr' := by
  rcases h with ⟨h1, rfl, rfl⟩ | ⟨h1, k, n, d, v, b, h2, h3⟩ <;> rcases h' with ⟨g1, rfl, rfl⟩ | ⟨g1, k', n', d', v', b', g2, g3⟩
  · exact ⟨rfl, rfl⟩
  · exact absurd h1 g1
  · exact absurd g1 h1
  · obtain ⟨rfl, rfl, rfl, rfl, rfl⟩ := h2.uni g2
    rcases h3 with ⟨rfl, rfl, rfl⟩ | ⟨rfl, rfl, rfl⟩ <;> rcases g3 with ⟨e, rfl, rfl⟩ | ⟨e, rfl, rfl⟩
    · exact ⟨rfl, rfl⟩
    · cases e
    · cases e
    · exact ⟨rfl, rfl⟩
theorem LkD.ex (L : ByteArray) : ∃ lo lr, LkD L lo lr := by
  by_cases h : L.size = 0
  · exact ⟨[], 0, .inl ⟨h, rfl, rfl⟩⟩
  · by_cases h2 : ∃ k n d v, OrdR k n d v ∧ ordT k n d v = L
    · obtain ⟨k, n, d, v, h3, h4⟩ := h2
      exact ⟨[(k, n, d, v)], 0, .inr ⟨h, k, n, d, v, true, .inl ⟨h3, h4, rfl⟩, .inl ⟨rfl, rfl, rfl⟩⟩⟩
    · exact ⟨[], 1, .inr ⟨h, 0, 0, 0, 0, false, .inr ⟨fun k n d v h3 h4 => h2 ⟨k, n, d, v, h3, h4⟩, rfl, rfl, rfl, rfl, rfl⟩, .inr ⟨rfl, rfl, rfl⟩⟩⟩
theorem LkD.ord {L : ByteArray} {lo : List Od4} {lr : Int} (h : LkD L lo lr) : (lo = [] ∨ ∃ o, lo = [o]) ∧ (0 ≤ lr ∧ lr ≤ 1) ∧ (∀ o ∈ lo, OrdR o.1 o.2.1 o.2.2.1 o.2.2.2) := by
  rcases h with ⟨h1, rfl, rfl⟩ | ⟨h1, k, n, d, v, b, h2, h3⟩
  · exact ⟨.inl rfl, by decide, fun o h => by cases h⟩
  · rcases h3 with ⟨rfl, rfl, rfl⟩ | ⟨rfl, rfl, rfl⟩
    · refine ⟨.inr ⟨_, rfl⟩, by decide, fun o h => ?_⟩
      rw [List.mem_singleton.1 h]
      rcases h2 with ⟨h3, _⟩ | ⟨_, e, _⟩
      · exact h3
      · cases e
    · exact ⟨.inl rfl, by decide, fun o h => by cases h⟩
structure Inp where
  i : Ic
  K : ByteArray
  L : ByteArray
def Inp.ok (x : Inp) : Prop := (⟨x.i.ks.toArray⟩ : ByteArray) = x.K ∧ LkD x.L x.i.lo x.i.lr ∧ (0 ≤ x.i.b ∧ x.i.b ≤ 15) ∧ x.K.size ≤ 20 ∧ x.L.size ≤ 40
theorem Inp.ok.ic {x : Inp} (h : x.ok) : x.i.ok := ⟨h.2.2.1, by have h1 := txt_size h.1; have h2 := h.2.2.2.1; omega, h.2.1.ord⟩
def Inp.V (x : Inp) : Value := .agg #[.int .i64 x.i.b, .string x.K, .string x.L]
end Go.Proofs.YtfhhnelffldggaaGreatDoor
namespace Go.Proofs.YtfhhnelffldggaaGreatDoor
open Go.ChangeShapes Go.WideShapes Go.ChangeAt Go.RowKit Go.PlainAid
set_option linter.unusedVariables false
abbrev In3 := Int × ByteArray × ByteArray
def inV : List In3 → List Value
  | [] => []
  | r :: t => .int .i64 r.1 :: .string r.2.1 :: .string r.2.2 :: inV t
theorem inV_len : ∀ l : List In3, (inV l).length = l.length * 3
  | [] => rfl
  | r :: t => by simp [inV, inV_len t]; omega
theorem inV_at : ∀ (l : List In3) (j : Nat) (h : j < l.length), (inV l)[j * 3]? = some (.int .i64 l[j].1) ∧ (inV l)[j * 3 + 1]? = some (.string l[j].2.1) ∧ (inV l)[j * 3 + 2]? = some (.string l[j].2.2)
  | [], j, h => by simp at h
  | r :: t, 0, h => by simp [inV]
  | r :: t, j + 1, h => by
    have := inV_at t j (by simpa using h)
    rw [show (j + 1) * 3 = j * 3 + 1 + 1 + 1 by omega, show j * 3 + 1 + 1 + 1 + 2 = j * 3 + 2 + 1 + 1 + 1 by omega]
    simpa [inV] using this
theorem infoZ : (Tryz.prog.info? 46).map (fun i => (i.zero, i.size, i.bytes)) = some (some (.agg #[.int .i64 0, .string ⟨#[]⟩, .string ⟨#[]⟩]), 3, 40) := by kernel_rfl
def RdZ (w : World) (a : Option Addr) (l : List In3) : Prop := 0 < l.length → ∃ g off, a = some ⟨g, off, none⟩ ∧ ∀ j (h : j < l.length), w.cell? ⟨g, off + j * 3, none⟩ = some (.int .i64 l[j].1) ∧ w.cell? ⟨g, off + j * 3 + 1, none⟩ = some (.string l[j].2.1) ∧ w.cell? ⟨g, off + j * 3 + 2, none⟩ = some (.string l[j].2.2)
theorem RdZ.keep {w w' : World} {a : Option Addr} {l : List In3} {B : Nat} (h : RdZ w a l) (hb : Below B w w') (hB : w.heap.size ≤ B) : RdZ w' a l := fun h0 => by
  obtain ⟨g, off, ha, hc⟩ := h h0
  refine ⟨g, off, ha, fun j hj => ?_⟩
  obtain ⟨h0, h1, h2⟩ := hc j hj
  have hlt := Nat.lt_of_lt_of_le (World.block_lt_of_cell? w ⟨g, off + j * 3, none⟩ h0) hB
  exact ⟨(hb.cell (p := ⟨g, off + j * 3, none⟩) hlt).trans h0, (hb.cell (p := ⟨g, off + j * 3 + 1, none⟩) hlt).trans h1, (hb.cell (p := ⟨g, off + j * 3 + 2, none⟩) hlt).trans h2⟩
theorem RdZ.on {w w' : World} {a : Option Addr} {l : List In3} (h : RdZ w a l) (hb : Below w.heap.size w w') : RdZ w' a l := h.keep hb (Nat.le_refl _)
def OwnZ (w : World) (B : Nat) (v : Value) (n : Nat) (l : List In3) : Prop := w.ownsRow B 46 3 v n (inV l)
theorem OwnZ.len {w : World} {B n : Nat} {v : Value} {l : List In3} (h : OwnZ w B v n l) : l.length = n := by
  have := h.1; rw [inV_len] at this; omega
theorem OwnZ.rd {w : World} {B n c : Nat} {a : Option Addr} {l : List In3} (h : OwnZ w B (.slice a n c) n l) : RdZ w a l := fun h0 => by
  have hl := h.len
  rcases h.2 with ⟨hv, e⟩ | ⟨g, cap, cur, hv, _⟩
  · omega
  · cases hv
    refine ⟨g, 0, rfl, fun j hj => ?_⟩
    obtain ⟨h0, h1, h2⟩ := inV_at l j hj
    refine ⟨?_, ?_, ?_⟩
    · rw [Nat.zero_add, h.cellAt (j * 3) (by omega)]; exact h0
    · rw [Nat.zero_add, h.cellAt (j * 3 + 1) (by omega)]; exact h1
    · rw [Nat.zero_add, h.cellAt (j * 3 + 2) (by omega)]; exact h2
theorem inV_set : ∀ (l : List In3) (j : Nat) (x : Int) (y z : ByteArray), (((inV l).set (j * 3) (.int .i64 x)).set (j * 3 + 1) (.string y)).set (j * 3 + 2) (.string z) = inV (l.set j (x, y, z))
  | [], j, x, y, z => by simp [inV]
  | r :: l, 0, x, y, z => by simp [inV]
  | r :: l, j + 1, x, y, z => by
    have := inV_set l j x y z
    rw [show (j + 1) * 3 = j * 3 + 1 + 1 + 1 by omega, show j * 3 + 1 + 1 + 1 + 2 = j * 3 + 2 + 1 + 1 + 1 by omega]
    simpa [inV] using this
def RowZ (w : World) (g : Nat) (l : List In3) : Prop := w.heap[g]? = some (.cells (inV l).toArray 46 (0, 0))
theorem RowZ.lt {w : World} {g : Nat} {l : List In3} (h : RowZ w g l) : g < w.heap.size := row_lt h
theorem RowZ.on {w w' : World} {g : Nat} {l : List In3} (h : RowZ w g l) (hb : Below w.heap.size w w') : RowZ w' g l := row_after h hb (row_lt h)
theorem RowZ.cell {w : World} {g : Nat} {l : List In3} (h : RowZ w g l) (j : Nat) (hj : j < l.length) : w.cell? ⟨g, j * 3, none⟩ = some (.int .i64 l[j].1) ∧ w.cell? ⟨g, j * 3 + 1, none⟩ = some (.string l[j].2.1) ∧ w.cell? ⟨g, j * 3 + 2, none⟩ = some (.string l[j].2.2) := by
  have := inV_at l j hj
  rw [cell_of_row w g (j * 3) _ _ (0, 0) h, cell_of_row w g (j * 3 + 1) _ _ (0, 0) h, cell_of_row w g (j * 3 + 2) _ _ (0, 0) h]
  simpa using this
theorem RowZ.free {w : World} {g : Nat} {l : List In3} (h : RowZ w g l) (j : Nat) : w.frozen? ⟨g, j, none⟩ = false := frozen_of_row w g j _ _ h
theorem RowZ.rd {w : World} {g : Nat} {l : List In3} (h : RowZ w g l) : RdZ w (some ⟨g, 0, none⟩) l := fun _ => ⟨g, 0, rfl, fun j hj => by rw [Nat.zero_add]; exact h.cell j hj⟩
theorem RowZ.set {w : World} {g : Nat} {l : List In3} (h : RowZ w g l) (j : Nat) (x : Int) (y z : ByteArray) : RowZ (((w.setCell ⟨g, j * 3, none⟩ (.int .i64 x)).setCell ⟨g, j * 3 + 1, none⟩ (.string y)).setCell ⟨g, j * 3 + 2, none⟩ (.string z)) g (l.set j (x, y, z)) := by
  unfold RowZ at h ⊢
  have h1 := heap_setCell_same w g (j * 3) _ _ (.int .i64 x) h
  have h2 := heap_setCell_same _ g (j * 3 + 1) _ _ (.string y) h1
  rw [heap_setCell_same _ g (j * 3 + 2) _ _ (.string z) h2, ← inV_set]
  simp
theorem inV_zero (n : Nat) : madeCells #[.int .i64 0, .string ⟨#[]⟩, .string ⟨#[]⟩] (n * 3) = (inV (List.replicate n (0, ⟨#[]⟩, ⟨#[]⟩))).toArray := by
  apply Array.ext
  · simp [madeCells, inV_len]
  · intro j h1 h2
    have hj : j < n * 3 := by simpa [madeCells] using h1
    have h0 : j / 3 < n := by omega
    have hr := inV_at (List.replicate n ((0, ⟨#[]⟩, ⟨#[]⟩) : In3)) (j / 3) (by simpa using h0)
    have hj2 : j < (inV (List.replicate n ((0, ⟨#[]⟩, ⟨#[]⟩) : In3))).length := by simpa using h2
    have h3 : j % 3 = 0 ∨ j % 3 = 1 ∨ j % 3 = 2 := by omega
    rcases h3 with e | e | e
    · have := hr.1
      rw [show j / 3 * 3 = j by omega, List.getElem?_eq_getElem hj2] at this
      have h5 := Option.some.inj this
      simp at h5
      simp [madeCells, e, h5]
    · have := hr.2.1
      rw [show j / 3 * 3 + 1 = j by omega, List.getElem?_eq_getElem hj2] at this
      have h5 := Option.some.inj this
      simp at h5
      simp [madeCells, e, h5]
    · have := hr.2.2
      rw [show j / 3 * 3 + 2 = j by omega, List.getElem?_eq_getElem hj2] at this
      have h5 := Option.some.inj this
      simp at h5
      simp [madeCells, e, h5]
theorem makeZ (n : Nat) (hn : n ≤ 1048576) (w : World) : (Instr.makeSlice 24 (.int .i64 n) (.int .i64 n)).run Tryz.prog w = .ok (.slice (some ⟨w.heap.size, 0, none⟩) n n) (w.alloc (.cells (inV (List.replicate n (0, ⟨#[]⟩, ⟨#[]⟩))).toArray 46)) := by
  obtain ⟨i0, hi, hz0, hz1, hz2⟩ := info_parts infoZ
  have h := run_make (P := Tryz.prog) w 24 46 i0 _ Tryz.underlying24 hi hz0 .i64 .i64 n n (by omega) (Int.le_refl _) (by rw [hz2]; omega) (by omega)
  rw [hz1, Int.toNat_natCast, show (Value.agg #[.int .i64 0, .string ⟨#[]⟩, .string ⟨#[]⟩]).cells = #[.int .i64 0, .string ⟨#[]⟩, .string ⟨#[]⟩] from rfl, inV_zero] at h
  exact h
theorem toZ (x : Int) (y z : ByteArray) (w : World) : Calls Tryz.prog 64 #[.agg #[.int .i64 x, .string y, .string z]] w fun e w' => e = .returned (.agg #[.int .i64 x, .string y, .string z]) ∧ Below w.heap.size w w' := by
  go_enter Tryz.func64, Tryz.ntmps64
  go_wp2
  refine bodyPost_ret (v := .agg #[.int .i64 x, .string y, .string z]) (by simp [results, Tryz.results64, go_sem]) rfl ⟨rfl, ?_⟩
  exact (((Below.refl _ _).alloc (Nat.le_refl _) _).alloc (by simp) _).alloc (by simp; omega) _
def uptoZ (l : List In3) (n j : Nat) : List In3 := l.take j ++ List.replicate (n - j) (0, ⟨#[]⟩, ⟨#[]⟩)
theorem uptoZ_zero (l : List In3) (n : Nat) : uptoZ l n 0 = List.replicate n (0, ⟨#[]⟩, ⟨#[]⟩) := by simp [uptoZ]
theorem uptoZ_len {l : List In3} {n j : Nat} (hl : l.length = n) (h : j ≤ n) : (uptoZ l n j).length = n := by simp [uptoZ]; omega
theorem uptoZ_all {l : List In3} {n : Nat} (hl : l.length = n) : uptoZ l n n = l := by simp [uptoZ]; exact List.take_of_length_le (by omega)
theorem uptoZ_set {l : List In3} {n j : Nat} (hl : l.length = n) (h : j < n) (hj : j < l.length) : (uptoZ l n j).set j l[j] = uptoZ l n (j + 1) := by
  have h1 : (l.take j).length = j := by simp; omega
  unfold uptoZ
  obtain ⟨m, hm⟩ : ∃ m, n - j = m + 1 := ⟨n - j - 1, by omega⟩
  rw [hm, show n - (j + 1) = m by omega, List.replicate_succ, List.set_append_right _ _ (by omega), h1, Nat.sub_self, List.set_cons_zero, List.take_succ_eq_append_getElem hj, List.append_assoc]
  rfl
theorem toZs (a : Option Addr) (l : List In3) (n cap : Nat) (hl : l.length = n) (hn : n ≤ 1048576) (w : World) (hr : RdZ w a l) :
    Calls Tryz.prog 21 #[.slice a n cap] w fun e w' => e = .returned (.slice (some ⟨w.heap.size, 0, none⟩) n n) ∧ RowZ w' w.heap.size l ∧ Below w.heap.size w w' := by
  have HL : Hid (l.length = n) := hl
  have HW0 : Hid (Below w.heap.size w (w.alloc (.cells (inV (List.replicate n (0, ⟨#[]⟩, ⟨#[]⟩))).toArray 46))) := (Below.refl w.heap.size w).alloc (Nat.le_refl _) _
  have HROW0 : Hid (RowZ (w.alloc (.cells (inV (List.replicate n (0, ⟨#[]⟩, ⟨#[]⟩))).toArray 46)) w.heap.size (uptoZ l n 0)) := by rw [uptoZ_zero]; exact heap_new w _
  have hmk := makeZ n hn
  clear hl
  by_cases hp : 0 < n
  · obtain ⟨g, off, rfl, hc⟩ := hr (by have := HL.out; omega)
    have HC : Hid (∀ j (h : j < l.length), w.cell? ⟨g, off + j * 3, none⟩ = some (.int .i64 l[j].1) ∧ w.cell? ⟨g, off + j * 3 + 1, none⟩ = some (.string l[j].2.1) ∧ w.cell? ⟨g, off + j * 3 + 2, none⟩ = some (.string l[j].2.2)) := hc
    have hgl : g < w.heap.size := World.block_lt_of_cell? w ⟨g, off + 0 * 3, none⟩ (hc 0 (by have := HL.out; omega)).1
    clear hr hc
    go_enter Tryz.func21, Tryz.ntmps21
    go_wp2
    go_loopg [4] n (fun gk i wr => ∃ j : Nat, j + gk = n ∧ i = .int .i64 j ∧ Hid (RowZ wr w.heap.size (uptoZ l n j)) ∧ Hid (Below w.heap.size w wr))
    case atStart => exact ⟨0, by omega, rfl, HROW0, HW0⟩
    case round =>
      clear HROW0 HW0
      obtain ⟨j, hj, rfl, HROW, HW⟩ := hrel
      by_cases hlt : j < n
      · have hjl : j < l.length := by have := HL.out; omega
        have c := HC.out j hjl
        have c0 := (HW.out.cell (p := ⟨g, off + j * 3, none⟩) hgl).trans c.1
        have c1 := (HW.out.cell (p := ⟨g, off + j * 3 + 1, none⟩) hgl).trans c.2.1
        have c2 := (HW.out.cell (p := ⟨g, off + j * 3 + 2, none⟩) hgl).trans c.2.2
        clear c
        obtain ⟨x, e0⟩ : ∃ z, l[j].1 = z := ⟨_, rfl⟩
        obtain ⟨y, e1⟩ : ∃ z, l[j].2.1 = z := ⟨_, rfl⟩
        obtain ⟨z, e2⟩ : ∃ z, l[j].2.2 = z := ⟨_, rfl⟩
        rw [e0] at c0
        rw [e1] at c1
        rw [e2] at c2
        have HF : Hid ((x, y, z) = l[j]) := by rw [← e0, ← e1, ← e2]; rfl
        clear e0 e1 e2
        go_wp2_with fail
        refine (toZ x y z _).mono ?_
        rintro e w1 ⟨rfl, hb1⟩
        have HR1 : Hid (RowZ w1 w.heap.size (uptoZ l n j)) := HROW.out.on hb1
        have HW1 : Hid (Below w.heap.size w w1) := HW.out.trans (hb1.mono HW.out.size)
        have hu : j < (uptoZ l n j).length := by rw [uptoZ_len HL.out (by omega)]; exact hlt
        have d := HR1.out.cell j hu
        have d0 := HR1.out.free (j * 3)
        have d1 := HR1.out.free (j * 3 + 1)
        have d2 := HR1.out.free (j * 3 + 2)
        have HR2 : Hid (RowZ (((w1.setCell ⟨w.heap.size, j * 3, none⟩ (.int .i64 x)).setCell ⟨w.heap.size, j * 3 + 1, none⟩ (.string y)).setCell ⟨w.heap.size, j * 3 + 2, none⟩ (.string z)) w.heap.size (uptoZ l n (j + 1))) := by
          have := HR1.out.set j x y z
          rw [HF.out, uptoZ_set HL.out hlt hjl] at this
          exact this
        have HW2 : Hid (Below w.heap.size w (((w1.setCell ⟨w.heap.size, j * 3, none⟩ (.int .i64 x)).setCell ⟨w.heap.size, j * 3 + 1, none⟩ (.string y)).setCell ⟨w.heap.size, j * 3 + 2, none⟩ (.string z))) := ((HW1.out.setCell (Nat.le_refl _) _).setCell (Nat.le_refl _) _).setCell (Nat.le_refl _) _
        generalize (uptoZ l n j)[j].1 = q0 at d
        generalize (uptoZ l n j)[j].2.1 = q1 at d
        generalize (uptoZ l n j)[j].2.2 = q2 at d
        clear hb1 HROW HW hu HR1 HW1 c0 c1 c2
        go_wp2
        go_roundg (gk - 1)
        case measure => omega
        case rel => exact ⟨j + 1, by omega, by go_num, HR2, HW2⟩
      · obtain rfl : j = n := by omega
        have HROW' : Hid (RowZ wr w.heap.size l) := by have := HROW.out; rw [uptoZ_all HL.out] at this; exact this
        clear HROW
        go_wp2
        go_ret
        exact ⟨rfl, HROW'.out, HW.out⟩
  · obtain rfl : n = 0 := by omega
    have HROW' : Hid (RowZ (w.alloc (.cells (inV (List.replicate 0 (0, ⟨#[]⟩, ⟨#[]⟩))).toArray 46)) w.heap.size l) := by have := HROW0.out; rw [uptoZ_all HL.out] at this; exact this
    clear hr hp HROW0
    have hmk0 : ∀ w : World, (Instr.makeSlice 24 (.int .i64 0) (.int .i64 0)).run Tryz.prog w = .ok (.slice (some ⟨w.heap.size, 0, none⟩) 0 0) (w.alloc (.cells (inV (List.replicate 0 (0, ⟨#[]⟩, ⟨#[]⟩))).toArray 46)) := hmk
    clear hmk
    go_enter Tryz.func21, Tryz.ntmps21
    go_wp2
    go_rounds 1
    go_ret
    exact ⟨rfl, HROW'.out, HW0.out⟩
theorem eqZ (x : Int) (y z : ByteArray) (w : World) : Calls Tryz.prog 69 #[.agg #[.int .i64 x, .string y, .string z], .agg #[.int .i64 x, .string y, .string z]] w fun e w' => e = .returned (.bool true) ∧ Below w.heap.size w w' := by
  go_enter Tryz.func69, Tryz.ntmps69
  go_wp2
  go_ret
  exact ⟨rfl, ((Below.refl _ _).alloc (Nat.le_refl _) _).alloc (by simp) _⟩
theorem keepZ {w W W' : World} {b c o m : Nat} {x y z x' y' z' : Value} (hb : Below W.heap.size W W') (h : W.cell? ⟨b, o, none⟩ = some x ∧ W.cell? ⟨b, o + 1, none⟩ = some y ∧ W.cell? ⟨b, o + 2, none⟩ = some z ∧ W.cell? ⟨c, m, none⟩ = some x' ∧ W.cell? ⟨c, m + 1, none⟩ = some y' ∧ W.cell? ⟨c, m + 2, none⟩ = some z' ∧ Below w.heap.size w W) :
    W'.cell? ⟨b, o, none⟩ = some x ∧ W'.cell? ⟨b, o + 1, none⟩ = some y ∧ W'.cell? ⟨b, o + 2, none⟩ = some z ∧ W'.cell? ⟨c, m, none⟩ = some x' ∧ W'.cell? ⟨c, m + 1, none⟩ = some y' ∧ W'.cell? ⟨c, m + 2, none⟩ = some z' ∧ Below w.heap.size w W' := by
  obtain ⟨h0, h1, h2, h3, h4, h5, h6⟩ := h
  have l1 := World.block_lt_of_cell? W ⟨b, o, none⟩ h0
  have l2 := World.block_lt_of_cell? W ⟨c, m, none⟩ h3
  exact ⟨(hb.cell (p := ⟨b, o, none⟩) l1).trans h0, (hb.cell (p := ⟨b, o + 1, none⟩) l1).trans h1, (hb.cell (p := ⟨b, o + 2, none⟩) l1).trans h2, (hb.cell (p := ⟨c, m, none⟩) l2).trans h3, (hb.cell (p := ⟨c, m + 1, none⟩) l2).trans h4, (hb.cell (p := ⟨c, m + 2, none⟩) l2).trans h5, h6.trans (hb.mono h6.size)⟩
theorem eqZs (a b : Option Addr) (l : List In3) (n ca cb : Nat) (hl : l.length = n) (hn : n ≤ 1048576) (w : World) (ha : RdZ w a l) (hb : RdZ w b l) :
    Calls Tryz.prog 23 #[.slice a n ca, .slice b n cb] w fun e w' => e = .returned (.bool true) ∧ Below w.heap.size w w' := by
  have HL : Hid (l.length = n) := hl
  clear hl
  by_cases hp : 0 < n
  · obtain ⟨ga, oa, rfl, hca⟩ := ha (by have := HL.out; omega)
    obtain ⟨gb, ob, rfl, hcb⟩ := hb (by have := HL.out; omega)
    have HA : Hid (∀ j (h : j < l.length), w.cell? ⟨ga, oa + j * 3, none⟩ = some (.int .i64 l[j].1) ∧ w.cell? ⟨ga, oa + j * 3 + 1, none⟩ = some (.string l[j].2.1) ∧ w.cell? ⟨ga, oa + j * 3 + 2, none⟩ = some (.string l[j].2.2)) := hca
    have HB : Hid (∀ j (h : j < l.length), w.cell? ⟨gb, ob + j * 3, none⟩ = some (.int .i64 l[j].1) ∧ w.cell? ⟨gb, ob + j * 3 + 1, none⟩ = some (.string l[j].2.1) ∧ w.cell? ⟨gb, ob + j * 3 + 2, none⟩ = some (.string l[j].2.2)) := hcb
    have la : ga < w.heap.size := World.block_lt_of_cell? w ⟨ga, oa + 0 * 3, none⟩ (hca 0 (by have := HL.out; omega)).1
    have lb : gb < w.heap.size := World.block_lt_of_cell? w ⟨gb, ob + 0 * 3, none⟩ (hcb 0 (by have := HL.out; omega)).1
    clear ha hb hca hcb
    go_enter Tryz.func23, Tryz.ntmps23
    go_wp2
    go_loopg [5] n (fun gk i wr => ∃ j : Nat, j + gk = n ∧ i = .int .i64 j ∧ Hid (Below w.heap.size w wr))
    case atStart => exact ⟨0, by omega, rfl, Below.refl _ _⟩
    case round =>
      obtain ⟨j, hj, rfl, HW⟩ := hrel
      by_cases hlt : j < n
      · have hjl : j < l.length := by have := HL.out; omega
        have c := HA.out j hjl
        have d := HB.out j hjl
        have c0 := (HW.out.cell (p := ⟨ga, oa + j * 3, none⟩) la).trans c.1
        have d0 := (HW.out.cell (p := ⟨gb, ob + j * 3, none⟩) lb).trans d.1
        have c1 := (HW.out.cell (p := ⟨ga, oa + j * 3 + 1, none⟩) la).trans c.2.1
        have d1 := (HW.out.cell (p := ⟨gb, ob + j * 3 + 1, none⟩) lb).trans d.2.1
        have c2 := (HW.out.cell (p := ⟨ga, oa + j * 3 + 2, none⟩) la).trans c.2.2
        have d2 := (HW.out.cell (p := ⟨gb, ob + j * 3 + 2, none⟩) lb).trans d.2.2
        clear c d
        generalize l[j].1 = x at *
        generalize l[j].2.1 = y at *
        generalize l[j].2.2 = z at *
        have i0 : (0 : Int) ≤ (j : Int) := by omega
        have i1 : (j : Int) < (n : Int) := by omega
        have HC : Hid (wr.cell? ⟨ga, oa + j * 3, none⟩ = some (.int .i64 x) ∧ wr.cell? ⟨ga, oa + j * 3 + 1, none⟩ = some (.string y) ∧ wr.cell? ⟨ga, oa + j * 3 + 2, none⟩ = some (.string z) ∧ wr.cell? ⟨gb, ob + j * 3, none⟩ = some (.int .i64 x) ∧ wr.cell? ⟨gb, ob + j * 3 + 1, none⟩ = some (.string y) ∧ wr.cell? ⟨gb, ob + j * 3 + 2, none⟩ = some (.string z) ∧ Below w.heap.size w wr) := ⟨c0, c1, c2, d0, d1, d2, HW.out⟩
        clear c0 d0 c1 d1 c2 d2 hjl
        go_wp2
        go_region_held3 (fun w' => w'.cell? ⟨ga, oa + j * 3, none⟩ = some (.int .i64 x) ∧ w'.cell? ⟨ga, oa + j * 3 + 1, none⟩ = some (.string y) ∧ w'.cell? ⟨ga, oa + j * 3 + 2, none⟩ = some (.string z) ∧ w'.cell? ⟨gb, ob + j * 3, none⟩ = some (.int .i64 x) ∧ w'.cell? ⟨gb, ob + j * 3 + 1, none⟩ = some (.string y) ∧ w'.cell? ⟨gb, ob + j * 3 + 2, none⟩ = some (.string z) ∧ Below w.heap.size w w') (first | (refine keepZ (by assumption) ?_; assumption) | (exact ⟨HC.out.1, HC.out.2.1, HC.out.2.2.1, HC.out.2.2.2.1, HC.out.2.2.2.2.1, HC.out.2.2.2.2.2.1, HC.out.2.2.2.2.2.2.drew⟩)) (first | (go_at_call 69; refine (eqZ x y z _).mono ?_; rintro e w2 ⟨rfl, hb2⟩))
        rename_i HH
        have HW2 : Hid (Below w.heap.size w w2) := HH.2.2.2.2.2.2
        clear HH hb2 HC HW
        go_wp2
        go_roundg (gk - 1)
        case measure => omega
        case rel => exact ⟨j + 1, by omega, by go_num, HW2⟩
      · go_wp2
        go_ret
        exact ⟨rfl, HW.out⟩
  · obtain rfl : n = 0 := by omega
    clear ha hb
    go_enter Tryz.func23, Tryz.ntmps23
    go_wp2
    go_rounds 1
    go_ret
    exact ⟨rfl, Below.refl _ _⟩
end Go.Proofs.YtfhhnelffldggaaGreatDoor
namespace Go.Proofs.YtfhhnelffldggaaGreatDoor
open Go.RowKit Go.PlainAid
def Inp.t3 (x : Inp) : In3 := (x.i.b, x.K, x.L)
def inOkB (x : In3) : Bool := decide ((0 ≤ x.1 ∧ x.1 ≤ 15) ∧ x.2.1.size ≤ 20 ∧ x.2.2.size ≤ 40)
theorem results2_row {fn : Func} {p q : Tmp} {ty : TypeId} (h : fn.results = #[.cell p ty, .tmp q]) (tmps : Array Value) (w : World) (g : Nat) (t : TypeId) (cs : Array Value) (fr : Nat × Nat) (v : Value) (hv : tmps.getD q undef = v)
    (hp : tmps.getD p undef = .pointer (some ⟨g, 0, none⟩)) (hg : w.heap[g]? = some (.cells cs t fr))
    (hu : (match Tryz.prog.underlying ty with | some (.struct _) | some (.array _ _) => true | _ => false) = true) (hi : (Tryz.prog.info? ty).map (·.size) = some cs.size) :
    (results fn tmps).run Tryz.prog w = .ok (.tuple #[.agg cs, v]) w := by
  cases e : Tryz.prog.underlying ty with
  | none => rw [e] at hu; cases hu
  | some d =>
    rw [e] at hu
    have hr : (loadVar ty ⟨g, 0, none⟩).run Tryz.prog w = .ok (.agg cs) w := run_loadVar_row w g t ty cs fr d hg e (by cases d <;> first | rfl | (cases hu)) hi
    have hp' : tmps[p]?.getD undef = .pointer (some ⟨g, 0, none⟩) := by simpa using hp
    have hv' : tmps[q]?.getD undef = v := by simpa using hv
    simp [results, h, hp', hv', asAddr, hr]
end Go.Proofs.YtfhhnelffldggaaGreatDoor
namespace Go.Proofs.YtfhhnelffldggaaGreatDoor
open Go.RowKit Go.Deep Go.PlainAid
set_option linter.unusedVariables false
theorem inokI (b : Int) (K L : ByteArray) (B : Bool) (hB : decide ((0 ≤ b ∧ b ≤ 15) ∧ K.size ≤ 20 ∧ L.size ≤ 40) = B) (w : World) : Calls Tryz.prog 19 #[.agg #[.int .i64 b, .string K, .string L]] w fun e w' => e = .returned (.bool B) ∧ Below w.heap.size w w' := by
  have HB : Hid (decide ((0 ≤ b ∧ b ≤ 15) ∧ K.size ≤ 20 ∧ L.size ≤ 40) = B) := hB
  have HP : Hid ((w.alloc (.cells #[.int .i64 b, .string K, .string L] 46)).heap[w.heap.size]? = some (.cells #[.int .i64 b, .string K, .string L] 46)) := heap_new w _
  have HW : Hid (Below w.heap.size w (w.alloc (.cells #[.int .i64 b, .string K, .string L] 46))) := alI _ _
  obtain ⟨B1, hB1⟩ : ∃ B1, decide (0 ≤ b ∧ b ≤ 15) = B1 := ⟨_, rfl⟩
  have H1 : Hid (decide (0 ≤ b ∧ b ≤ 15) = B1) := hB1
  have p := box3i_cells HP.out
  clear hB hB1
  go_enter Tryz.func19, Tryz.ntmps19
  go_wp2_with fail
  refine (H.senseI b B1 H1.out _).mono ?_
  rintro e W ⟨rfl, hW⟩
  have HW1 := bq HW hW
  have p1 := box3i_cells (row_on HP.out hW)
  clear hW HW HP p
  cases B1
  · obtain rfl : false = B := by rw [← HB.out]; exact (decide_eq_false (fun h => absurd h.1 (of_decide_eq_false H1.out))).symm
    go_wp2
    go_ret
    exact ⟨rfl, HW1.out⟩
  have h1 := of_decide_eq_true H1.out
  by_cases hk : K.size ≤ 20
  case neg =>
    obtain rfl : false = B := by rw [← HB.out]; exact (decide_eq_false (fun h => hk h.2.1)).symm
    have hk' : ¬ (K.size : Int) ≤ 20 := by omega
    go_wp2
    go_ret
    exact ⟨rfl, HW1.out⟩
  have hk' : (K.size : Int) ≤ 20 := by omega
  by_cases hl : L.size ≤ 40
  · obtain rfl : true = B := by rw [← HB.out]; exact (decide_eq_true ⟨h1, hk, hl⟩).symm
    have hl' : (L.size : Int) ≤ 40 := by omega
    clear h1
    go_wp2
    go_ret
    exact ⟨rfl, HW1.out⟩
  · obtain rfl : false = B := by rw [← HB.out]; exact (decide_eq_false (fun h => hl h.2.2)).symm
    have hl' : ¬ (L.size : Int) ≤ 40 := by omega
    clear h1
    go_wp2
    go_ret
    exact ⟨by show Ending.returned (Value.bool (decide ((L.size : Int) ≤ 40))) = _; rw [decide_eq_false (by omega)], HW1.out⟩
end Go.Proofs.YtfhhnelffldggaaGreatDoor
namespace Go.Proofs.YtfhhnelffldggaaGreatDoor
open Go.RowKit Go.PlainAid
set_option linter.unusedVariables false
set_option linter.unusedSimpArgs false
theorem lessS (a b z : Int) (hz : min a b = z) (w : World) : Calls Tryz.prog 108 #[.int .i64 a, .int .i64 b] w fun e w' => e = .returned (.int .i64 z) ∧ w' = w := by
  by_cases h : a < b
  · obtain rfl : a = z := by omega
    clear hz
    go_enter Tryz.func108, Tryz.ntmps108
    go_wp2
    go_ret
    exact ⟨rfl, rfl⟩
  · obtain rfl : b = z := by omega
    clear hz
    go_enter Tryz.func108, Tryz.ntmps108
    go_wp2
    go_ret
    exact ⟨rfl, rfl⟩
theorem wantsS_no (s n d r l b g k : Int) (hp : ¬ Pm.ok ⟨s, n, d, r, l, b, g, k⟩) (w : World) : Calls Tryz.prog 55 #[PV s n d r l b g k] w fun e w' => e = .returned (.int .i64 (Pm.wants ⟨s, n, d, r, l, b, g, k⟩)) ∧ Below w.heap.size w w' := by
  have HT : Hid (Pm.wants ⟨s, n, d, r, l, b, g, k⟩ = 0) := by show _ = _; unfold Pm.wants; rw [ok_no hp]; simp
  have KP : Hid (∀ w, Calls Tryz.prog 94 #[PV s n d r l b g k] w fun e w' => e = .returned (.bool false) ∧ Below w.heap.size w w') := fun w => pumpokS ⟨s, n, d, r, l, b, g, k⟩ false ⟨fun h => (by cases h), fun h => absurd h hp⟩ w
  clear hp
  have HB0 : Hid (Below w.heap.size w (w.alloc (PB s n d r l b g k))) := alP _ _
  have HP0 : Hid ((w.alloc (PB s n d r l b g k)).heap[w.heap.size]? = some (PB s n d r l b g k)) := heap_new w _
  have p0 := box8_cells HP0.out
  go_enter Tryz.func55, Tryz.ntmps55
  go_wp2_with fail
  refine Calls.mono (KP.out _) ?_
  rintro e w1 ⟨rfl, hb1⟩
  have HB1 := bq HB0 hb1
  have HP1 : Hid (w1.heap[w.heap.size]? = some (PB s n d r l b g k)) := row_on HP0.out hb1
  have p1 := box8_cells HP1.out
  clear hb1 HB0 HP0 p0
  go_wp2
  go_ret
  exact ⟨by rw [HT.out]; rfl, HB1.out⟩
theorem wantsS_0 (n d r l b g k : Int) (hp : Pm.ok ⟨0, n, d, r, l, b, g, k⟩) (w : World) : Calls Tryz.prog 55 #[PV 0 n d r l b g k] w fun e w' => e = .returned (.int .i64 (Pm.wants ⟨0, n, d, r, l, b, g, k⟩)) ∧ Below w.heap.size w w' := by
  have HT : Hid (Pm.wants ⟨0, n, d, r, l, b, g, k⟩ = 0) := by show _ = _; unfold Pm.wants; simp
  have KP : Hid (∀ w, Calls Tryz.prog 94 #[PV 0 n d r l b g k] w fun e w' => e = .returned (.bool true) ∧ Below w.heap.size w w') := fun w => pumpokS ⟨0, n, d, r, l, b, g, k⟩ true ⟨fun _ => hp, fun _ => rfl⟩ w
  clear hp
  have HB0 : Hid (Below w.heap.size w (w.alloc (PB 0 n d r l b g k))) := alP _ _
  have HP0 : Hid ((w.alloc (PB 0 n d r l b g k)).heap[w.heap.size]? = some (PB 0 n d r l b g k)) := heap_new w _
  have p0 := box8_cells HP0.out
  go_enter Tryz.func55, Tryz.ntmps55
  go_wp2_with fail
  refine Calls.mono (KP.out _) ?_
  rintro e w1 ⟨rfl, hb1⟩
  have HB1 := bq HB0 hb1
  have HP1 : Hid (w1.heap[w.heap.size]? = some (PB 0 n d r l b g k)) := row_on HP0.out hb1
  have p1 := box8_cells HP1.out
  clear hb1 HB0 HP0 p0
  go_wp2
  go_ret
  exact ⟨by rw [HT.out]; rfl, HB1.out⟩
theorem wantsS_3 (n d r l b g k : Int) (hp : Pm.ok ⟨3, n, d, r, l, b, g, k⟩) (w : World) : Calls Tryz.prog 55 #[PV 3 n d r l b g k] w fun e w' => e = .returned (.int .i64 (Pm.wants ⟨3, n, d, r, l, b, g, k⟩)) ∧ Below w.heap.size w w' := by
  have HT : Hid (Pm.wants ⟨3, n, d, r, l, b, g, k⟩ = 0) := by show _ = _; unfold Pm.wants; simp
  have KP : Hid (∀ w, Calls Tryz.prog 94 #[PV 3 n d r l b g k] w fun e w' => e = .returned (.bool true) ∧ Below w.heap.size w w') := fun w => pumpokS ⟨3, n, d, r, l, b, g, k⟩ true ⟨fun _ => hp, fun _ => rfl⟩ w
  clear hp
  have HB0 : Hid (Below w.heap.size w (w.alloc (PB 3 n d r l b g k))) := alP _ _
  have HP0 : Hid ((w.alloc (PB 3 n d r l b g k)).heap[w.heap.size]? = some (PB 3 n d r l b g k)) := heap_new w _
  have p0 := box8_cells HP0.out
  go_enter Tryz.func55, Tryz.ntmps55
  go_wp2_with fail
  refine Calls.mono (KP.out _) ?_
  rintro e w1 ⟨rfl, hb1⟩
  have HB1 := bq HB0 hb1
  have HP1 : Hid (w1.heap[w.heap.size]? = some (PB 3 n d r l b g k)) := row_on HP0.out hb1
  have p1 := box8_cells HP1.out
  clear hb1 HB0 HP0 p0
  go_wp2
  go_ret
  exact ⟨by rw [HT.out]; rfl, HB1.out⟩
theorem wantsS_1 (n d r l b g k : Int) (hp : Pm.ok ⟨1, n, d, r, l, b, g, k⟩) (w : World) : Calls Tryz.prog 55 #[PV 1 n d r l b g k] w fun e w' => e = .returned (.int .i64 (Pm.wants ⟨1, n, d, r, l, b, g, k⟩)) ∧ Below w.heap.size w w' := by
  obtain ⟨y, hy⟩ : ∃ y, (r + n) / d = y := ⟨_, rfl⟩
  have hrt := rate_bd hp
  unfold Pm.rate at hrt
  dsimp only at hrt
  rw [hy] at hrt
  obtain ⟨y0, y1⟩ := hrt
  have hpb : (0 : Int) ≤ b ∧ b ≤ 100 := hp.2.2.2.2.2.1
  have hpl : (0 : Int) ≤ l ∧ l ≤ 5000 := hp.2.2.2.1
  obtain ⟨x, hx⟩ : ∃ x, min y l = x := ⟨_, rfl⟩
  obtain ⟨q, hq⟩ : ∃ q, min b 3 = q := ⟨_, rfl⟩
  have HX : Hid (min y l = x) := hx
  have HQ : Hid (min b 3 = q) := hq
  have hrr : ratR n d r := hp.2.1
  have KR : Hid (∀ w, Calls Tryz.prog 110 #[.agg #[.int .i64 n, .int .i64 d, .int .i64 r]] w fun e w' => e = .returned (.tuple #[.agg #[.int .i64 n, .int .i64 d, .int .i64 ((r + n) % d)], .int .i64 y]) ∧ Below w.heap.size w w') := fun w => by
    have h := stepRS n d r w
    rw [show stepR n d r = (r + n) % d from if_pos hrr, show stepO n d r = y from (if_pos hrr).trans hy] at h
    exact h
  have HT : Hid (Pm.wants ⟨1, n, d, r, l, b, g, k⟩ = x + q) := by
    show _ = _
    unfold Pm.wants Pm.base Pm.rate
    rw [ok_yes hp]
    simp [hy, hx, hq]
  have e1 : IntKind.i64.wrap (x + q) = x + q := wrap_in (by omega) (by omega)
  have KP : Hid (∀ w, Calls Tryz.prog 94 #[PV 1 n d r l b g k] w fun e w' => e = .returned (.bool true) ∧ Below w.heap.size w w') := fun w => pumpokS ⟨1, n, d, r, l, b, g, k⟩ true ⟨fun _ => hp, fun _ => rfl⟩ w
  clear hp hrr hy hx hq hpb hpl y0 y1
  have HB0 : Hid (Below w.heap.size w (w.alloc (PB 1 n d r l b g k))) := alP _ _
  have HP0 : Hid ((w.alloc (PB 1 n d r l b g k)).heap[w.heap.size]? = some (PB 1 n d r l b g k)) := heap_new w _
  have p0 := box8_cells HP0.out
  go_enter Tryz.func55, Tryz.ntmps55
  go_wp2_with fail
  refine Calls.mono (KP.out _) ?_
  rintro e w1 ⟨rfl, hb1⟩
  have HB1 := bq HB0 hb1
  have HP1 : Hid (w1.heap[w.heap.size]? = some (PB 1 n d r l b g k)) := row_on HP0.out hb1
  have p1 := box8_cells HP1.out
  clear hb1 HB0 HP0 p0
  go_wp2_with fail
  refine Calls.mono (KR.out _) ?_
  rintro e w2 ⟨rfl, hb2⟩
  obtain ⟨r', hr'⟩ : ∃ z, (r + n) % d = z := ⟨_, rfl⟩
  rw [hr']
  have HB2 : Hid (Below w.heap.size w (w2.alloc (.cells #[.int .i64 n, .int .i64 d, .int .i64 r'] 27))) := bel_on (Nat.le_refl _) (bel_on (Nat.le_refl _) HB1.out hb2) (alP _ _)
  have HP2 : Hid ((w2.alloc (.cells #[.int .i64 n, .int .i64 d, .int .i64 r'] 27)).heap[w.heap.size]? = some (PB 1 n d r l b g k)) := row_on (row_on HP1.out hb2) (alP _ _)
  have p2 := box8_cells HP2.out
  clear hb2 HB1 HP1 p1 hr' KR KP
  go_wp2_with fail
  refine (lessS y l x HX.out _).mono ?_
  rintro e wz ⟨rfl, rfl⟩
  go_wp2_with fail
  refine (lessS b 3 q HQ.out _).mono ?_
  rintro e wz ⟨rfl, rfl⟩
  go_wp2
  go_ret
  exact ⟨by rw [HT.out]; rfl, HB2.out⟩
theorem wantsS_2 (n d r l b g k : Int) (hp : Pm.ok ⟨2, n, d, r, l, b, g, k⟩) (w : World) : Calls Tryz.prog 55 #[PV 2 n d r l b g k] w fun e w' => e = .returned (.int .i64 (Pm.wants ⟨2, n, d, r, l, b, g, k⟩)) ∧ Below w.heap.size w w' := by
  obtain ⟨y, hy⟩ : ∃ y, (r + n) / d = y := ⟨_, rfl⟩
  have hrt := rate_bd hp
  unfold Pm.rate at hrt
  dsimp only at hrt
  rw [hy] at hrt
  obtain ⟨y0, y1⟩ := hrt
  have hpb : (0 : Int) ≤ b ∧ b ≤ 100 := hp.2.2.2.2.2.1
  have hpl : (0 : Int) ≤ l ∧ l ≤ 5000 := hp.2.2.2.1
  obtain ⟨x, hx⟩ : ∃ x, min y l = x := ⟨_, rfl⟩
  obtain ⟨q, hq⟩ : ∃ q, min b 3 = q := ⟨_, rfl⟩
  have HX : Hid (min y l = x) := hx
  have HQ : Hid (min b 3 = q) := hq
  have hrr : ratR n d r := hp.2.1
  have KR : Hid (∀ w, Calls Tryz.prog 110 #[.agg #[.int .i64 n, .int .i64 d, .int .i64 r]] w fun e w' => e = .returned (.tuple #[.agg #[.int .i64 n, .int .i64 d, .int .i64 ((r + n) % d)], .int .i64 y]) ∧ Below w.heap.size w w') := fun w => by
    have h := stepRS n d r w
    rw [show stepR n d r = (r + n) % d from if_pos hrr, show stepO n d r = y from (if_pos hrr).trans hy] at h
    exact h
  have HT : Hid (Pm.wants ⟨2, n, d, r, l, b, g, k⟩ = y + q) := by
    show _ = _
    unfold Pm.wants Pm.base Pm.rate
    rw [ok_yes hp]
    simp [hy, hx, hq]
  have e1 : IntKind.i64.wrap (y + q) = y + q := wrap_in (by omega) (by omega)
  have KP : Hid (∀ w, Calls Tryz.prog 94 #[PV 2 n d r l b g k] w fun e w' => e = .returned (.bool true) ∧ Below w.heap.size w w') := fun w => pumpokS ⟨2, n, d, r, l, b, g, k⟩ true ⟨fun _ => hp, fun _ => rfl⟩ w
  clear hp hrr hy hx hq hpb hpl y0 y1
  have HB0 : Hid (Below w.heap.size w (w.alloc (PB 2 n d r l b g k))) := alP _ _
  have HP0 : Hid ((w.alloc (PB 2 n d r l b g k)).heap[w.heap.size]? = some (PB 2 n d r l b g k)) := heap_new w _
  have p0 := box8_cells HP0.out
  go_enter Tryz.func55, Tryz.ntmps55
  go_wp2_with fail
  refine Calls.mono (KP.out _) ?_
  rintro e w1 ⟨rfl, hb1⟩
  have HB1 := bq HB0 hb1
  have HP1 : Hid (w1.heap[w.heap.size]? = some (PB 2 n d r l b g k)) := row_on HP0.out hb1
  have p1 := box8_cells HP1.out
  clear hb1 HB0 HP0 p0
  go_wp2_with fail
  refine Calls.mono (KR.out _) ?_
  rintro e w2 ⟨rfl, hb2⟩
  obtain ⟨r', hr'⟩ : ∃ z, (r + n) % d = z := ⟨_, rfl⟩
  rw [hr']
  have HB2 : Hid (Below w.heap.size w (w2.alloc (.cells #[.int .i64 n, .int .i64 d, .int .i64 r'] 27))) := bel_on (Nat.le_refl _) (bel_on (Nat.le_refl _) HB1.out hb2) (alP _ _)
  have HP2 : Hid ((w2.alloc (.cells #[.int .i64 n, .int .i64 d, .int .i64 r'] 27)).heap[w.heap.size]? = some (PB 2 n d r l b g k)) := row_on (row_on HP1.out hb2) (alP _ _)
  have p2 := box8_cells HP2.out
  clear hb2 HB1 HP1 p1 hr' KR KP
  go_wp2_with fail
  refine (lessS b 3 q HQ.out _).mono ?_
  rintro e wz ⟨rfl, rfl⟩
  go_wp2
  go_ret
  exact ⟨by rw [HT.out]; rfl, HB2.out⟩
theorem wantsS (p : Pm) (w : World) : Calls Tryz.prog 55 #[p.V] w fun e w' => e = .returned (.int .i64 p.wants) ∧ Below w.heap.size w w' := by
  obtain ⟨s, n, d, r, l, b, g, k⟩ := p
  by_cases hp : Pm.ok ⟨s, n, d, r, l, b, g, k⟩
  · have hs : s = 0 ∨ s = 1 ∨ s = 2 ∨ s = 3 := by have := hp.1; dsimp only at this; omega
    rcases hs with rfl | rfl | rfl | rfl
    · exact wantsS_0 n d r l b g k hp w
    · exact wantsS_1 n d r l b g k hp w
    · exact wantsS_2 n d r l b g k hp w
    · exact wantsS_3 n d r l b g k hp w
  · exact wantsS_no s n d r l b g k hp w
end Go.Proofs.YtfhhnelffldggaaGreatDoor
namespace Go.Proofs.YtfhhnelffldggaaGreatDoor
open Go.ChangeShapes Go.WideShapes Go.ChangeAt Go.RowKit Go.Deep Go.PlainAid
set_option linter.unusedVariables false
set_option maxRecDepth 100000
theorem grown_row {w w' : World} {r : Option Nat} {k : Nat} {o : Obj} (hg : w.grownBy w' r) (h : w.heap[k]? = some o) (hne : r ≠ some k) : w'.heap[k]? = some o := (hg.block k (row_lt h) (Ne.symm hne)).trans h
theorem eqMnu (m : Mn) (w : World) : Calls Tryz.prog 67 #[mnV m, mnV m] w fun e w' => e = .returned (.bool true) ∧ Below w.heap.size w w' := by
  obtain ⟨a, b, n, d, s⟩ := m
  obtain ⟨S, hS⟩ : ∃ S : ByteArray, (⟨s.toArray⟩ : ByteArray) = S := ⟨_, rfl⟩
  unfold mnV
  dsimp only
  rw [hS]
  clear hS
  go_enter Tryz.func67, Tryz.ntmps67
  cases b <;>
  · go_wp2
    go_ret
    exact ⟨rfl, ((Below.refl _ _).alloc (Nat.le_refl _) _).alloc (by simp) _⟩
end Go.Proofs.YtfhhnelffldggaaGreatDoor
