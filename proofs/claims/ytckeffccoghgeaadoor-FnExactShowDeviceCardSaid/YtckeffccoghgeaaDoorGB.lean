/-
  Guards, in a namespace of their own.
-/
import Derived.Test.YtckeffccoghgeaaDoorGA
import Derived.Test.YtckeffccoghgeaaDoorBase
import Derived.Great.BuildSlice
import Derived.Deep.CutBlock
namespace Go.Proofs.YtckeffccoghgeaaDoor.G
open Go.ChangeShapes Go.WideShapes Go.ChangeAt Go.RowKit Go.PlainAid
set_option linter.unusedVariables false

/-- a guard, as a value -/
def grdV (a : Option Addr) (n c : Nat) (al : Int) : Value := .agg #[.slice a n c, .int .i64 al]
def grdC (a : Option Addr) (n c : Nat) (al : Int) : Obj := .cells #[.slice a n c, .int .i64 al] 39
theorem szGL (a : Option Addr) (al : Int) (n cap : Nat) (L : Int) (hn : n ≤ 9223372036854775807) (h0 : 0 ≤ L) (h1 : L ≤ 1048576) (w : World) : Calls Tryd.prog 9 #[.agg #[.slice a n cap, .int .i64 al], .int .i64 L] w fun e w' => e = .returned (.int .i64 (leftN L n)) ∧ Below w.heap.size w w' := by
  by_cases h : (n : Int) ≤ L
  · have HX : Hid (leftN L n = L - n) := leftN_yes h
    go_enter Tryd.func9, Tryd.ntmps9
    go_wp2_with fail
    refine (szIL a n cap L hn h0 h1 _).mono ?_
    rintro e w1 ⟨rfl, rfl⟩
    rw [HX.out]
    go_wp2
    go_ret
    exact ⟨by rw [HX.out]; rfl, (Below.refl _ _).alloc (Nat.le_refl _) _⟩
  · have HX : Hid (leftN L n = -1) := leftN_no h
    go_enter Tryd.func9, Tryd.ntmps9
    go_wp2_with fail
    refine (szIL a n cap L hn h0 h1 _).mono ?_
    rintro e w1 ⟨rfl, rfl⟩
    rw [HX.out]
    go_wp2
    go_ret
    exact ⟨by rw [HX.out]; rfl, (Below.refl _ _).alloc (Nat.le_refl _) _⟩
set_option maxRecDepth 100000 in
set_option maxHeartbeats 400000 in
theorem toG (a : Option Addr) (al : Int) (l : List Int) (n cap : Nat) (hl : l.length = n) (hn : n ≤ 1048576) (w : World) (hr : Rd w a l) :
    Calls Tryd.prog 16 #[.agg #[.slice a n cap, .int .i64 al]] w fun e w' => ∃ g, e = .returned (.agg #[.slice (some ⟨g, 0, none⟩) n n, .int .i64 al]) ∧ w.heap.size ≤ g ∧ RowAt w' g l ∧ Below w.heap.size w w' := by
  obtain ⟨hX, hY, hZ, hW, hS⟩ := box3 w (.slice a n cap) (.int .i64 al) (.slice none 0 0) (.int .i64 0) (.slice none 0 0) (.int .i64 0) 28 39 39
  have HX : Hid (_ = _) := hX
  have HY : Hid (_ = _) := hY
  have HZ : Hid (_ = _) := hZ
  have HW : Hid (Below _ _ _) := hW
  have HS : Hid (_ = _) := hS
  have HR : Hid (Rd w a l) := hr
  have HL : Hid (l.length = n) := hl
  clear hX hY hZ hW hS hr hl
  go_enter Tryd.func16, Tryd.ntmps16
  go_wp2_with fail
  refine (toI a l n cap HL.out hn _ (HR.out.keep HW.out (Nat.le_refl _))).mono ?_
  rintro e w1 ⟨rfl, hrow, hb1⟩
  rw [HS.out] at hrow hb1 ⊢
  have kx := row2_cells (row_after HX.out hb1 (by omega))
  have ky := row2_cells (row_after HY.out hb1 (by omega))
  have kz := row2_cells (row_after HZ.out hb1 (by omega))
  have HROW : Hid (RowAt w1 (w.heap.size + 3) l) := hrow
  have HW1 : Hid (Below w.heap.size w w1) := HW.out.trans (hb1.mono (by omega))
  clear hrow hb1 HX HY HZ HW HS HR
  go_wp2
  refine bodyPost_ret (v := .agg #[.slice (some ⟨w.heap.size + 3, 0, none⟩) n n, .int .i64 al]) (by simp [results, Tryd.results16, go_sem, ky]) rfl ⟨w.heap.size + 3, rfl, by omega, ?_, ?_⟩
  · unfold RowAt
    rw [Below.heap_setCell _ _ _ _ (by simp), Below.heap_setCell _ _ _ _ (by simp), Below.heap_setCell _ _ _ _ (by simp), Below.heap_setCell _ _ _ _ (by simp)]
    exact HROW.out
  · exact (((HW1.out.setCell (by simp; omega) _).setCell (by simp; omega) _).setCell (by simp) _).setCell (by simp) _
theorem eqG (a b : Option Addr) (al : Int) (l : List Int) (n ca cb : Nat) (hl : l.length = n) (hn : n ≤ 1048576) (w : World) (ha : Rd w a l) (hb : Rd w b l) :
    Calls Tryd.prog 24 #[.agg #[.slice a n ca, .int .i64 al], .agg #[.slice b n cb, .int .i64 al]] w fun e w' => e = .returned (.bool true) ∧ Below w.heap.size w w' := by
  obtain ⟨W, hW⟩ : ∃ W, (w.alloc (.cells #[.slice a n ca, .int .i64 al] 39)).alloc (.cells #[.slice b n cb, .int .i64 al] 39) = W := ⟨_, rfl⟩
  have HB : Hid (Below w.heap.size w ((w.alloc (.cells #[.slice a n ca, .int .i64 al] 39)).alloc (.cells #[.slice b n cb, .int .i64 al] 39))) := ((Below.refl _ _).alloc (Nat.le_refl _) _).alloc (by simp) _
  have HX : Hid (((w.alloc (.cells #[.slice a n ca, .int .i64 al] 39)).alloc (.cells #[.slice b n cb, .int .i64 al] 39)).heap[w.heap.size]? = some (.cells #[.slice a n ca, .int .i64 al] 39)) := (Below.heap_alloc _ _ _ (by simp)).trans (heap_new w _)
  have HY : Hid (((w.alloc (.cells #[.slice a n ca, .int .i64 al] 39)).alloc (.cells #[.slice b n cb, .int .i64 al] 39)).heap[w.heap.size + 1]? = some (.cells #[.slice b n cb, .int .i64 al] 39)) := by
    show _ = _
    have := heap_new (w.alloc (.cells #[.slice a n ca, .int .i64 al] 39)) (.cells #[.slice b n cb, .int .i64 al] 39)
    simpa using this
  have HRa : Hid (Rd _ _ _) := ha.keep HB.out (Nat.le_refl _)
  have HRb : Hid (Rd _ _ _) := hb.keep HB.out (Nat.le_refl _)
  have HL : Hid (l.length = n) := hl
  clear ha hb hl hW
  go_enter Tryd.func24, Tryd.ntmps24
  go_wp2_with fail
  refine (eqInts a b l n ca cb HL.out hn _ HRa.out HRb.out).mono ?_
  rintro e w1 ⟨rfl, hb1⟩
  have HW : Hid (Below w.heap.size w w1) := HB.out.trans (hb1.mono HB.out.size)
  have kx := row2_cells (row_on HX.out hb1)
  have ky := row2_cells (row_on HY.out hb1)
  clear hb1
  go_wp2
  go_ret
  exact ⟨rfl, HW.out⟩
theorem cellsGuard : Tryd.prog.cellsOf 28 = 2 := by kernel_rfl
set_option maxRecDepth 100000 in
theorem open_guard {H : Type} {enc : TypeId × Value → H} {W : World} {base : Nat} {held : Bool} {v : Value} {d : DataW H} {ps : List MemPlace} {bs : Nat}
    (hv : Value.okWide Tryd.prog W .any base 28 v) (h : DataW.Trod enc Tryd.prog W bs (fun _ => true) held 28 v d ps) :
    ∃ al a len cap zs, v = .agg #[.slice a len cap, .int .i64 al] ∧ (Lit.int .i64 al).wf = true ∧ IsRow .i64 W a len cap zs := by
  obtain ⟨cs, rfl, hsz⟩ := okWide_struct Tryd.underlying28 hv
  rw [cellsGuard] at hsz
  obtain ⟨l⟩ := cs
  match l, hsz with
  | [c0, c1], _ =>
  obtain ⟨fuel, hf⟩ := h
  obtain ⟨y0, y1, m, hx, _, hy0, hy1⟩ := trod_struct2 Tryd.underlying28 hf
  obtain ⟨al, e0, rfl, wa⟩ := DataW.trod_int Tryd.underlying3 hy1
  simp [Value.cells, cells3] at e0
  subst e0
  simp [Value.cells, cellsInts] at hy0
  rcases open_ints Tryd.underlying26 Tryd.underlying3 (by kernel_rfl) hy0 with ⟨hcs, _⟩ | ⟨x, l, c, zs, hcs, _, hl, hm, hz, _, hcell, hwz⟩
  · simp at hcs
    subst hcs
    exact ⟨al, none, 0, 0, [], rfl, wa, .inl ⟨rfl, rfl, rfl, rfl⟩⟩
  · simp at hcs
    subst hcs
    exact ⟨al, _, _, _, zs, rfl, wa, .inr ⟨_, rfl, hl, hm, by simpa using hz, hcell, hwz⟩⟩
end Go.Proofs.YtckeffccoghgeaaDoor.G

namespace Go.Proofs.YtckeffccoghgeaaDoor.G.H
open Go.RowKit Go.PlainAid
set_option linter.unusedVariables false

theorem holdsI (l m n : Int) (b : Bool) (hb : decide (l ≤ n ∧ n ≤ m) = b) (w : World) : Calls Tryd.prog 51 #[.agg #[.int .i64 l, .int .i64 m], .int .i64 n] w fun e w' => e = .returned (.bool b) ∧ Below w.heap.size w w' := by
  go_enter Tryd.func51, Tryd.ntmps51
  by_cases h1 : l ≤ n
  · by_cases h2 : n ≤ m
    · go_wp2
      go_ret
      exact ⟨by rw [← hb, decide_eq_true ⟨h1, h2⟩]; rfl, (Below.refl _ _).alloc (Nat.le_refl _) _⟩
    · go_wp2
      go_ret
      exact ⟨by rw [← hb, decide_eq_false (fun h => by omega)]; rfl, (Below.refl _ _).alloc (Nat.le_refl _) _⟩
  · go_wp2
    go_ret
    exact ⟨by rw [← hb, decide_eq_false (fun h => by omega)]; rfl, (Below.refl _ _).alloc (Nat.le_refl _) _⟩

theorem inS (l m n : Int) (b : Bool) (hb : decide (l ≤ n ∧ n ≤ m) = b) (w : World) : Calls Tryd.prog 31 #[.int .i64 n, .int .i64 l, .int .i64 m] w fun e w' => e = .returned (.bool b) ∧ w' = w := by
  go_enter Tryd.func31, Tryd.ntmps31
  by_cases h1 : l ≤ n
  · by_cases h2 : n ≤ m
    · go_wp2
      go_ret
      exact ⟨by rw [← hb, decide_eq_true ⟨h1, h2⟩]; rfl, rfl⟩
    · go_wp2
      go_ret
      exact ⟨by rw [← hb, decide_eq_false (fun h => by omega)]; rfl, rfl⟩
  · go_wp2
    go_ret
    exact ⟨by rw [← hb, decide_eq_false (fun h => by omega)]; rfl, rfl⟩

theorem bel_on {w W W' : World} {B : Nat} (hB : B ≤ w.heap.size) (h : Below B w W) (hb : Below W.heap.size W W') : Below B w W' := h.trans (hb.mono (Nat.le_trans hB h.size))
theorem senseS (n : Int) (b : Bool) (hb : decide (0 ≤ n ∧ n ≤ 15) = b) (w : World) : Calls Tryd.prog 33 #[.int .i64 n] w fun e w' => e = .returned (.bool b) ∧ w' = w := by
  go_enter Tryd.func33, Tryd.ntmps33
  go_wp2_with fail
  refine (inS 0 15 n b hb _).mono ?_
  rintro e w1 ⟨rfl, rfl⟩
  go_wp2
  go_ret
  exact ⟨rfl, rfl⟩

theorem senseI (n : Int) (b : Bool) (hb : decide (0 ≤ n ∧ n ≤ 15) = b) (w : World) : Calls Tryd.prog 44 #[.int .i64 n] w fun e w' => e = .returned (.bool b) ∧ Below w.heap.size w w' := by
  go_enter Tryd.func44, Tryd.ntmps44
  go_wp2_with fail
  refine (holdsI 0 15 n b hb _).mono ?_
  rintro e w1 ⟨rfl, hb1⟩
  go_wp2
  go_ret
  exact ⟨rfl, hb1⟩

def bitB (a b : Int) : Bool := !(IntKind.u8.wrap ((BitVec.ofInt 8 a &&& BitVec.ofInt 8 b).toNat : Int) == 0)
def oneB (a : Int) : Bool := !(a == 0) && (IntKind.u8.wrap ((BitVec.ofInt 8 a &&& BitVec.ofInt 8 (IntKind.u8.wrap (a - 1))).toNat : Int) == 0)
theorem bitI (a b : Int) (w : World) : Calls Tryd.prog 63 #[.int .u8 a, .int .u8 b] w fun e w' => e = .returned (.bool (bitB a b)) ∧ w' = w := by
  go_enter Tryd.func63, Tryd.ntmps63
  go_wp2
  go_ret
  exact ⟨rfl, rfl⟩
def hasB (n o : Int) : Bool := decide (0 ≤ n ∧ n ≤ 15) && (decide (o = 1 ∨ o = 2 ∨ o = 4 ∨ o = 8) && decide (n / o % 2 = 1))
theorem has_fin : ∀ i j : Fin 16, hasB (i.val : Int) (j.val : Int) = (oneB (j.val : Int) && bitB (i.val : Int) (j.val : Int)) := by decide +kernel
theorem has_eq (n o : Int) (hn : 0 ≤ n ∧ n ≤ 15) (ho : 0 ≤ o ∧ o ≤ 15) : hasB n o = (oneB o && bitB n o) := by
  have h := has_fin ⟨n.toNat, by omega⟩ ⟨o.toNat, by omega⟩
  have e1 : ((n.toNat : Nat) : Int) = n := by omega
  have e2 : ((o.toNat : Nat) : Int) = o := by omega
  simp only [e1, e2] at h
  exact h
theorem has_no1 (n o : Int) (hn : ¬ (0 ≤ n ∧ n ≤ 15)) : hasB n o = false := by
  unfold hasB
  rw [decide_eq_false hn]; rfl
theorem has_no2 (n o : Int) (ho : ¬ (0 ≤ o ∧ o ≤ 15)) : hasB n o = false := by
  unfold hasB
  rw [decide_eq_false (p := o = 1 ∨ o = 2 ∨ o = 4 ∨ o = 8) (by omega)]; simp
theorem hasS (n o : Int) (b : Bool) (hb : hasB n o = b) (w : World) : Calls Tryd.prog 34 #[.int .i64 n, .int .i64 o] w fun e w' => e = .returned (.bool b) ∧ w' = w := by
  go_enter Tryd.func34, Tryd.ntmps34
  by_cases hn : 0 ≤ n ∧ n ≤ 15
  · by_cases ho : o = 1 ∨ o = 2 ∨ o = 4 ∨ o = 8
    · go_wp2_with fail
      refine (senseS n true (decide_eq_true hn) _).mono ?_
      rintro e w1 ⟨rfl, rfl⟩
      rcases ho with rfl | rfl | rfl | rfl
      all_goals
        go_wp2
        go_ret
        refine ⟨?_, rfl⟩
        rw [← hb]
        show Ending.returned (Value.bool _) = _
        congr 2
        unfold hasB
        rw [decide_eq_true hn]
        simp
        rfl
    · obtain rfl : b = false := by rw [← hb]; unfold hasB; rw [decide_eq_false ho]; simp
      clear hb
      go_wp2_with fail
      refine (senseS n true (decide_eq_true hn) _).mono ?_
      rintro e w1 ⟨rfl, rfl⟩
      have h1 : (o != 1) = true := bne_iff_ne.mpr fun h => ho (Or.inl h)
      have h2 : (o != 2) = true := bne_iff_ne.mpr fun h => ho (Or.inr (Or.inl h))
      have h4 : (o != 4) = true := bne_iff_ne.mpr fun h => ho (Or.inr (Or.inr (Or.inl h)))
      have h8 : (o != 8) = true := bne_iff_ne.mpr fun h => ho (Or.inr (Or.inr (Or.inr h)))
      clear ho hn
      go_wp2
      go_ret
      exact ⟨rfl, rfl⟩
  · obtain rfl : b = false := by rw [← hb]; exact has_no1 n o hn
    clear hb
    have D := decide_eq_false hn
    clear hn
    go_wp2_with fail
    refine (senseS n false D _).mono ?_
    rintro e w1 ⟨rfl, rfl⟩
    go_wp2
    go_ret
    exact ⟨rfl, rfl⟩
end Go.Proofs.YtckeffccoghgeaaDoor.G.H

namespace Go.Proofs.YtckeffccoghgeaaDoor.G
open Go.RowKit Go.PlainAid
set_option linter.unusedVariables false
set_option linter.unusedSimpArgs false

def sumN : List Int → Int
  | [] => 0
  | x :: l => x + sumN l
theorem sumN_app (l m : List Int) : sumN (l ++ m) = sumN l + sumN m := by
  induction l with
  | nil => simp [sumN]
  | cons x l ih => simp only [List.cons_append, sumN, ih]; omega
theorem sumN_take {l : List Int} {j : Nat} (h : j < l.length) : sumN (l.take (j + 1)) = sumN (l.take j) + l[j] := by
  rw [← List.take_append_getElem h, sumN_app]
  simp [sumN]
/-- the sum, as it goes round -/
def sumW (l : List Int) : Int := IntKind.i64.wrap (sumN l)
theorem wrap_add (s x : Int) : IntKind.i64.wrap (IntKind.i64.wrap s + x) = IntKind.i64.wrap (s + x) := by
  rw [IntKind.wrap_i64, IntKind.wrap_i64, IntKind.wrap_i64]
  omega
theorem sumW_take {l : List Int} {j : Nat} (h : j < l.length) : IntKind.i64.wrap (sumW (l.take j) + l[j]) = sumW (l.take (j + 1)) := by
  unfold sumW
  rw [wrap_add, sumN_take h]
theorem sumW_zero (l : List Int) : sumW (l.take 0) = 0 := by
  unfold sumW
  rw [List.take_zero]
  exact wrap_in (by simp [sumN]) (by simp [sumN])
theorem sumW_all (l : List Int) : sumW (l.take l.length) = sumW l := by rw [List.take_length]
def AllG (l : List Int) (j : Nat) : Prop := ∀ i (h : i < l.length), i < j → 0 ≤ l[i] ∧ l[i] ≤ 30
theorem allG_zero (l : List Int) : AllG l 0 := fun i _ h => by omega
theorem allG_succ {l : List Int} {j : Nat} (h : AllG l j) (hj : j < l.length) (hr : 0 ≤ l[j] ∧ l[j] ≤ 30) : AllG l (j + 1) := fun i hi hlt => by
  rcases Nat.lt_or_ge i j with h1 | h1
  · exact h i hi h1
  · have : i = j := by omega
    subst this
    exact hr
def GdR (l : List Int) (al : Int) : Prop := l.length ≤ 9 ∧ (0 ≤ al ∧ al ≤ 15) ∧ (∀ i (h : i < l.length), 0 ≤ l[i] ∧ l[i] ≤ 30) ∧ sumN l ≤ 30
theorem sumN_bd {l : List Int} (h : ∀ i (h : i < l.length), 0 ≤ l[i] ∧ l[i] ≤ 30) : 0 ≤ sumN l ∧ sumN l ≤ 30 * l.length := by
  induction l with
  | nil => simp [sumN]
  | cons x l ih =>
    have h0 := h 0 (by simp)
    have h1 := ih (fun i hi => by have := h (i + 1) (by simp; omega); simpa using this)
    simp only [sumN, List.length_cons, List.getElem_cons_zero] at *
    omega
theorem sumW_in {l : List Int} (h : ∀ i (h : i < l.length), 0 ≤ l[i] ∧ l[i] ≤ 30) (hl : l.length ≤ 9) : sumW l = sumN l := by
  have := sumN_bd h
  unfold sumW
  exact wrap_in (by omega) (by omega)
theorem gd_bool (l : List Int) (al : Int) : ∃ b : Bool, b = true ↔ GdR l al := by
  by_cases h : GdR l al
  · exact ⟨true, fun _ => h, fun _ => rfl⟩
  · exact ⟨false, fun e => (by cases e), fun e => absurd e h⟩
theorem not_gd {l : List Int} {al : Int} {b : Bool} (hb : b = true ↔ GdR l al) (h : ¬ GdR l al) : b = false := by
  cases b
  · rfl
  · exact absurd (hb.1 rfl) h
theorem gd_end {l : List Int} {al : Int} {b : Bool} (hb : b = true ↔ GdR l al) (h1 : l.length ≤ 9) (h2 : 0 ≤ al ∧ al ≤ 15) (h3 : AllG l l.length) : decide (sumW l ≤ 30) = b := by
  have h3' : ∀ i (h : i < l.length), 0 ≤ l[i] ∧ l[i] ≤ 30 := fun i h => h3 i h h
  rw [sumW_in h3' h1]
  by_cases h : sumN l ≤ 30
  · rw [decide_eq_true h]; exact (hb.2 ⟨h1, h2, h3', h⟩).symm
  · rw [decide_eq_false h]; exact (not_gd hb (fun x => h x.2.2.2)).symm
/-- what is left to be let through, of a right guard -/
theorem room_bd {l : List Int} {al : Int} (h : GdR l al) : IntKind.i64.wrap (30 - sumW l) = 30 - sumN l ∧ 0 ≤ 30 - sumN l ∧ 30 - sumN l ≤ 30 := by
  have h1 := sumN_bd h.2.2.1
  have h2 := h.2.2.2
  rw [sumW_in h.2.2.1 h.1]
  exact ⟨wrap_in (by omega) (by omega), by omega, by omega⟩
set_option maxRecDepth 100000 in
set_option maxHeartbeats 1000000 in
theorem sumS (a : Option Addr) (l : List Int) (n cap : Nat) (hl : l.length = n) (hn : n ≤ 9223372036854775807) (w : World) (hr : Rd w a l) :
    Calls Tryd.prog 50 #[.slice a n cap] w fun e w' => e = .returned (.int .i64 (sumW l)) ∧ w' = w := by
  have HL : Hid (l.length = n) := hl
  have HR : Hid (Rd w a l) := hr
  clear hl hr
  go_enter Tryd.func50, Tryd.ntmps50
  go_wp2
  go_loopg [3, 4] n (fun gk s i wr => ∃ (j : Nat) (S : Int), j + gk = n ∧ i = .int .i64 j ∧ s = .int .i64 S ∧ Hid (S = sumW (l.take j)) ∧ wr = w)
  case atStart => exact ⟨0, 0, by omega, rfl, rfl, (sumW_zero l).symm, rfl⟩
  case round =>
    obtain ⟨j, S, hj, rfl, rfl, HS, rfl⟩ := hrel
    by_cases hlt : j < n
    · have hjl : j < l.length := by have := HL.out; omega
      obtain ⟨g, off, ha, hc⟩ := HR.out (by omega)
      subst ha
      have c1 := hc j hjl
      clear hc
      obtain ⟨x, hx⟩ : ∃ x, l[j] = x := ⟨_, rfl⟩
      rw [hx] at c1
      obtain ⟨T, hT⟩ : ∃ T, IntKind.i64.wrap (S + x) = T := ⟨_, rfl⟩
      have HT : Hid (T = sumW (l.take (j + 1))) := by show _ = _; rw [← hT, HS.out, ← hx]; exact sumW_take hjl
      clear hx HS
      go_wp2
      go_roundg (gk - 1)
      case measure => omega
      case rel => exact ⟨j + 1, T, by omega, by go_num, rfl, HT, rfl⟩
    · obtain rfl : j = n := by omega
      have HE : Hid (S = sumW l) := by show _ = _; rw [HS.out, ← HL.out]; exact sumW_all l
      clear HS
      go_wp2
      go_ret
      exact ⟨by rw [HE.out]; rfl, rfl⟩
set_option maxRecDepth 100000 in
set_option maxHeartbeats 1000000 in
theorem guardokS (a : Option Addr) (al : Int) (l : List Int) (n cap : Nat) (b : Bool) (hl : l.length = n) (hn : n ≤ 9223372036854775807) (hb : b = true ↔ GdR l al) (w : World) (hr : Rd w a l) :
    Calls Tryd.prog 29 #[.agg #[.slice a n cap, .int .i64 al]] w fun e w' => e = .returned (.bool b) ∧ Below w.heap.size w w' := by
  have HB : Hid (b = true ↔ GdR l al) := hb
  have HL : Hid (l.length = n) := hl
  have HR : Hid (Rd w a l) := hr
  obtain ⟨h1, h2, h3⟩ := box2 w (.slice a n cap) (.int .i64 al) 39
  have HX : Hid (_ = _) := h1
  have HW0 : Hid (Below _ _ _) := h2
  clear hb hl hr h1 h2 h3
  by_cases h9 : n ≤ 9
  case neg =>
    have HE : Hid (b = false) := not_gd HB.out (fun h => by have := h.1; have := HL.out; omega)
    have h9' : (9 : Int) < n := by omega
    go_enter Tryd.func29, Tryd.ntmps29
    go_wp2
    go_ret
    exact ⟨by rw [HE.out]; rfl, HW0.out⟩
  have h9' : ¬ (9 : Int) < n := by omega
  by_cases hal : 0 ≤ al ∧ al ≤ 15
  case neg =>
    have HE : Hid (b = false) := not_gd HB.out (fun h => hal h.2.1)
    have hd : decide ((0 : Int) ≤ al ∧ al ≤ 15) = false := decide_eq_false hal
    go_enter Tryd.func29, Tryd.ntmps29
    go_wp2_with fail
    refine (H.senseS al false hd _).mono ?_
    rintro e w1 ⟨rfl, rfl⟩
    go_wp2
    go_ret
    exact ⟨by rw [HE.out]; rfl, HW0.out⟩
  have HAL : Hid (0 ≤ al ∧ al ≤ 15) := hal
  have hd : decide ((0 : Int) ≤ al ∧ al ≤ 15) = true := decide_eq_true hal
  clear hal
  go_enter Tryd.func29, Tryd.ntmps29
  go_wp2_with fail
  refine (H.senseS al true hd _).mono ?_
  rintro e w1 ⟨rfl, rfl⟩
  clear hd
  go_wp2
  go_loopg [3] n (fun gk i wr => ∃ j : Nat, j + gk = n ∧ i = .int .i64 j ∧ Hid (AllG l j) ∧ Hid (Below w.heap.size w wr) ∧ Hid (wr.heap[w.heap.size]? = some (.cells #[.slice a n cap, .int .i64 al] 39)))
  case atStart => exact ⟨0, by omega, rfl, allG_zero l, HW0, HX⟩
  case round =>
    clear HW0 HX
    obtain ⟨j, hj, rfl, HI, HW, HX⟩ := hrel
    have k1 := row2_cells HX.out
    by_cases hlt : j < n
    · have hjl : j < l.length := by have := HL.out; omega
      obtain ⟨g, off, ha, hc⟩ := HR.out (by omega)
      subst ha
      have c1 := (HW.out.cell (p := ⟨g, off + j, none⟩) (World.block_lt_of_cell? w ⟨g, off + j, none⟩ (hc j hjl))).trans (hc j hjl)
      clear hc
      obtain ⟨x, hx⟩ : ∃ x, l[j] = x := ⟨_, rfl⟩
      rw [hx] at c1
      have HF : Hid (l[j] = x) := hx
      clear hx
      by_cases hf : 0 ≤ x ∧ x ≤ 30
      · have hd : decide ((0 : Int) ≤ x ∧ x ≤ 30) = true := decide_eq_true hf
        have HI' : Hid (AllG l (j + 1)) := allG_succ HI.out hjl (by rw [HF.out]; exact hf)
        clear hf HI
        go_wp2_with fail
        refine (inS 0 30 x true hd _).mono ?_
        rintro e w1 ⟨rfl, rfl⟩
        clear hd
        go_wp2
        go_roundg (gk - 1)
        case measure => omega
        case rel => exact ⟨j + 1, by omega, by go_num, HI', HW, HX⟩
      · have hd : decide ((0 : Int) ≤ x ∧ x ≤ 30) = false := decide_eq_false hf
        have HE : Hid (b = false) := not_gd HB.out (fun h => hf (by have := h.2.2.1 j hjl; rw [HF.out] at this; exact this))
        clear hf HI
        go_wp2_with fail
        refine (inS 0 30 x false hd _).mono ?_
        rintro e w1 ⟨rfl, rfl⟩
        clear hd
        go_wp2
        go_ret
        exact ⟨by rw [HE.out]; rfl, HW.out⟩
    · have HE : Hid (decide (sumW l ≤ 30) = b) := gd_end HB.out (by have := HL.out; omega) HAL.out (fun i h _ => HI.out i h (by have := HL.out; omega))
      have HRr : Hid (Rd wr a l) := HR.out.keep HW.out (Nat.le_refl _)
      obtain ⟨S, hS⟩ : ∃ S, sumW l = S := ⟨_, rfl⟩
      have HS : Hid (sumW l = S) := hS
      clear HI hS
      go_wp2_with fail
      refine (sumS a l n cap HL.out hn _ HRr.out).mono ?_
      rintro e w1 ⟨rfl, rfl⟩
      rw [HS.out]
      have hE := HE.out
      rw [HS.out] at hE
      subst hE
      clear HE HB
      go_wp2
      go_ret
      exact ⟨rfl, HW.out⟩
end Go.Proofs.YtckeffccoghgeaaDoor.G

namespace Go.Proofs.YtckeffccoghgeaaDoor.G
open Go.RowKit Go.PlainAid
set_option linter.unusedVariables false
set_option linter.unusedSimpArgs false

/-- the first j bits that one of two has -/
def orJ (a b : Int) : Nat → Int
  | 0 => 0
  | j + 1 => orJ a b j + (if a / 2 ^ j % 2 = 1 ∨ b / 2 ^ j % 2 = 1 then 2 ^ j else 0)
def orI (a b : Int) : Int := orJ a b 4
theorem pow_bd (j : Nat) (h : j ≤ 4) : 1 ≤ (2 : Int) ^ j ∧ (2 : Int) ^ j ≤ 16 := by
  have : j = 0 ∨ j = 1 ∨ j = 2 ∨ j = 3 ∨ j = 4 := by omega
  rcases this with rfl | rfl | rfl | rfl | rfl <;> decide
theorem orJ_bd (a b : Int) (j : Nat) (h : j ≤ 4) : 0 ≤ orJ a b j ∧ orJ a b j ≤ 2 ^ j - 1 := by
  induction j with
  | zero => simp [orJ]
  | succ j ih =>
    have h1 := ih (by omega)
    have h2 := pow_bd j (by omega)
    have h3 : (2 : Int) ^ (j + 1) = 2 ^ j * 2 := Int.pow_succ _ _
    unfold orJ
    split <;> omega
theorem orI_bd (a b : Int) : 0 ≤ orI a b ∧ orI a b ≤ 15 := by
  have := orJ_bd a b 4 (by omega)
  unfold orI
  omega
theorem div_bd {a t : Int} (ha : 0 ≤ a ∧ a ≤ 15) (ht : 1 ≤ t) : 0 ≤ a / t ∧ a / t ≤ 15 := by
  refine ⟨Int.ediv_nonneg ha.1 (by omega), ?_⟩
  have := Int.ediv_le_self t ha.1
  omega
/-- what is let through of x -/
def letG (l : List Int) (x : Int) : Int := max (min x (30 - sumN l)) 0
end Go.Proofs.YtckeffccoghgeaaDoor.G

namespace Go.Proofs.YtckeffccoghgeaaDoor.G
open Go.RowKit Go.PlainAid
set_option linter.unusedVariables false
set_option linter.unusedSimpArgs false

theorem alG (w : World) (o : Obj) : Below w.heap.size w (w.alloc o) := (Below.refl _ _).alloc (Nat.le_refl _) _
theorem al_atG (w : World) (o : Obj) {k : Nat} (h : w.heap.size = k) : (w.alloc o).heap[k]? = some o := by subst h; exact heap_new w o
theorem set_rowG {w : World} {k : Nat} {T : TypeId} {a : Array Value} (h : w.heap[k]? = some (.cells a T)) (i : Nat) (x : Value) : (w.setCell ⟨k, i, none⟩ x).heap[k]? = some (.cells (a.setIfInBounds i x) T) := heap_setCell_same w k i _ _ x h
/-- what a store leaves: one row is another, all else is as it was -/
def PutG (w w' : World) (g : Nat) (o : Obj) : Prop := w'.heap[g]? = some o ∧ (∀ k, k ≠ g → w'.heap[k]? = w.heap[k]?) ∧ w'.heap.size = w.heap.size ∧ (∀ B W, B ≤ g → Below B W w → Below B W w')
theorem PutG.far {w w' : World} {g k : Nat} {o p : Obj} (h : PutG w w' g o) (hr : w.heap[k]? = some p) (hne : k ≠ g) : w'.heap[k]? = some p := (h.2.1 k hne).trans hr
theorem own_same {w w' : World} {B g n c : Nat} {l : List Int} (h : OwnN w B g n c l) (hg : w'.heap[g]? = w.heap[g]?) : OwnN w' B g n c l := by
  refine ⟨h.1, ?_⟩
  rcases h.2 with h2 | ⟨g', cap, cur, e, h3, h4, h5⟩
  · exact .inl h2
  · cases e
    exact .inr ⟨_, _, _, rfl, h3, hg.trans h4, h5⟩
theorem OwnN.cap {w : World} {B g n c : Nat} {l : List Int} (h : OwnN w B g n c l) : n ≤ c := by
  rcases h.2 with h2 | ⟨g', cap, cur, e, h3, h4, h5, _⟩
  · cases h2.1
  · cases e
    exact h5
theorem rd_take {w : World} {a : Option Addr} {l : List Int} (h : Rd w a l) (m : Nat) : Rd w a (l.take m) := fun h0 => by
  have hl : (l.take m).length ≤ l.length := by simp; omega
  obtain ⟨g, off, ha, hc⟩ := h (by omega)
  refine ⟨g, off, ha, fun j hj => ?_⟩
  rw [List.getElem_take]
  exact hc j (by omega)
theorem PutG.own {w w' : World} {g B k n c : Nat} {o : Obj} {l : List Int} (h : PutG w w' g o) (hr : OwnN w B k n c l) (hne : k ≠ g) : OwnN w' B k n c l := own_same hr (h.2.1 k hne)
/-- a guard stored into a row, as one -/
theorem listStoreG {ops : Array Oper} {rest : List Oper} {o : Oper} {a : Act} {Q : Exit → Act → World → Prop} {w : World} (hgd : o.guard = none) (hd : o.dst = none) (x y : Operand) (ty : TypeId) (ho : o.op = .store ty x y) (hty : ty = 39)
    (g : Nat) (q : Option Addr) (n c : Nat) (z : Int) (hx : a.eval x = .pointer (some ⟨g, 0, none⟩)) (hy : a.eval y = .agg #[.slice q n c, .int .i64 z])
    {u0 u1 : Value} (hg : w.heap[g]? = some (.cells #[u0, u1] 39))
    (h : ∀ w' : World, PutG w w' g (.cells #[.slice q n c, .int .i64 z] 39) → wpList Tryd.prog ops Q rest a w') : wpList Tryd.prog ops Q (o :: rest) a w := by
  subst hty
  refine wpList_store_rowTo hgd _ x y ho hd g _ hx hy _ _ hg (by kernel_rfl) rfl (by kernel_rfl) ?_
  refine h _ ⟨setRow_heap w g _ _ _ _ hg, fun k hk => setRow_other w g k _ hk, setRow_size w g _, fun B W hB hb => ?_⟩
  exact ⟨hb.os, hb.tape, hb.output, by rw [setRow_size]; exact hb.size, fun k hk => by rw [setRow_other w g k _ (by omega)]; exact hb.block k hk⟩
theorem storeV_run {w : World} {g i : Nat} {z : Int} {cs : Array Value} {T : TypeId} (hg : w.heap[g]? = some (.cells cs T)) (hi : i < cs.size) : (Instr.storeAt 3 (.pointer (some ⟨g, i, none⟩)) (.int .i64 z)).run Tryd.prog w = .ok () (w.setCell ⟨g, i, none⟩ (.int .i64 z)) := by
  have k1 : w.cell? ⟨g, i, none⟩ = some cs[i] := by simp [World.cell?, hg, hi]
  have k2 : w.frozen? ⟨g, i, none⟩ = false := by simp [World.frozen?, hg]
  simp [go_sem, Instr.storeAt, k1, k2]
theorem storeL_run {w : World} {g i : Nat} {q : Option Addr} {n c : Nat} {cs : Array Value} {T : TypeId} (hg : w.heap[g]? = some (.cells cs T)) (hi : i < cs.size) : (Instr.storeAt 26 (.pointer (some ⟨g, i, none⟩)) (.slice q n c)).run Tryd.prog w = .ok () (w.setCell ⟨g, i, none⟩ (.slice q n c)) := by
  have k1 : w.cell? ⟨g, i, none⟩ = some cs[i] := by simp [World.cell?, hg, hi]
  have k2 : w.frozen? ⟨g, i, none⟩ = false := by simp [World.frozen?, hg]
  simp [go_sem, Instr.storeAt, k1, k2]
theorem putG_set {w : World} {g i : Nat} {v : Value} {cs : Array Value} {T : TypeId} (hg : w.heap[g]? = some (.cells cs T)) : PutG w (w.setCell ⟨g, i, none⟩ v) g (.cells (cs.setIfInBounds i v) T) :=
  ⟨set_rowG hg i _, fun k hk => Below.heap_setCell _ _ _ _ hk, by simp, fun B W hB hb => hb.setCell hB _⟩
/-- one number stored into a row -/
theorem listStoreI {ops : Array Oper} {rest : List Oper} {o : Oper} {a : Act} {Q : Exit → Act → World → Prop} {w : World} (hgd : o.guard = none) (hd : o.dst = none) (x y : Operand) (ty : TypeId) (ho : o.op = .store ty x y) (hty : ty = 3)
    (g i : Nat) (z : Int) (hx : a.eval x = .pointer (some ⟨g, i, none⟩)) (hy : a.eval y = .int .i64 z)
    {cs : Array Value} {T : TypeId} (hg : w.heap[g]? = some (.cells cs T)) (hi : i < cs.size)
    (h : ∀ w' : World, PutG w w' g (.cells (cs.setIfInBounds i (.int .i64 z)) T) → wpList Tryd.prog ops Q rest a w') : wpList Tryd.prog ops Q (o :: rest) a w := by
  subst hty
  refine wpList_plain hgd fun _ hK => ?_
  unfold Oper.wp
  simp only [execOp, ho, hx, hy, Sem.run_bind, storeV_run hg hi, Result.andThen, Sem.run_pure]
  exact hK _ _ (by rw [hd]; exact h _ (putG_set hg))
/-- a list stored into a row -/
theorem listStoreL {ops : Array Oper} {rest : List Oper} {o : Oper} {a : Act} {Q : Exit → Act → World → Prop} {w : World} (hgd : o.guard = none) (hd : o.dst = none) (x y : Operand) (ty : TypeId) (ho : o.op = .store ty x y) (hty : ty = 26)
    (g i : Nat) (q : Option Addr) (n c : Nat) (hx : a.eval x = .pointer (some ⟨g, i, none⟩)) (hy : a.eval y = .slice q n c)
    {cs : Array Value} {T : TypeId} (hg : w.heap[g]? = some (.cells cs T)) (hi : i < cs.size)
    (h : ∀ w' : World, PutG w w' g (.cells (cs.setIfInBounds i (.slice q n c)) T) → wpList Tryd.prog ops Q rest a w') : wpList Tryd.prog ops Q (o :: rest) a w := by
  subst hty
  refine wpList_plain hgd fun _ hK => ?_
  unfold Oper.wp
  simp only [execOp, ho, hx, hy, Sem.run_bind, storeL_run hg hi, Result.andThen, Sem.run_pure]
  exact hK _ _ (by rw [hd]; exact h _ (putG_set hg))
def feelA (b : Bool) (al x : Int) (seen : Bool) : Int := if b = true ∧ (0 ≤ x ∧ x ≤ 15) then (if seen = true then x else orI al x) else al
/-- three boxed guards behind what only grew -/
def KG3 (w w' : World) (Q : Nat) (p z q : Obj) : Prop := w'.heap[w.heap.size]? = some p ∧ w'.heap[w.heap.size + 1]? = some z ∧ w'.heap[Q]? = some q ∧ Below w.heap.size w w'
theorem KG3.on {w w' w2 : World} {Q : Nat} {p z q : Obj} (h : KG3 w w' Q p z q) (hb : Below w'.heap.size w' w2) : KG3 w w2 Q p z q := ⟨row_on h.1 hb, row_on h.2.1 hb, row_on h.2.2.1 hb, bel_on (Nat.le_refl _) h.2.2.2 hb⟩
theorem KG3.grown {w w' w2 : World} {Q k : Nat} {p z q : Obj} (h : KG3 w w' Q p z q) (hg : w'.grownBy w2 (some k)) (h1 : w.heap.size + 1 < k) (h2 : Q ≠ k) : KG3 w w2 Q p z q := by
  have b : ∀ m o, w'.heap[m]? = some o → m ≠ k → w2.heap[m]? = some o := fun m o hm hne => (hg.block m (row_lt hm) (fun e => hne (Option.some.inj e))).trans hm
  exact ⟨b _ _ h.1 (by omega), b _ _ h.2.1 (by omega), b _ _ h.2.2.1 h2, h.2.2.2.grown hg h.2.2.2.size (fun m hm => by cases hm; omega)⟩
theorem kg_conj {w w' : World} {Q : Nat} {x y : Value} {T : TypeId} {z q : Obj} (h : KG3 w w' Q (.cells #[x, y] T) z q) : w'.cell? ⟨w.heap.size, 0, none⟩ = some x ∧ w'.cell? ⟨w.heap.size, 1, none⟩ = some y ∧ Below w.heap.size w w' := by
  refine ⟨?_, ?_, h.2.2.2⟩ <;> simp [World.cell?, h.1]
def passL (b : Bool) (l : List Int) (x : Int) : List Int := if b = true then (letG l x :: l).take 9 else l
end Go.Proofs.YtckeffccoghgeaaDoor.G
