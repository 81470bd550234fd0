/-
  Guards, in a namespace of their own.
-/
import Derived.Test.YtdifmjcghaoilaaGreatDoorGaBN
import Derived.Test.YtdifmjcghaoilaaGreatDoorGaBL
import Derived.Great.BuildSlice
import Derived.Deep.CutBlock
namespace Go.Proofs.YtdifmjcghaoilaaGreatDoor.G
open Go.ChangeShapes Go.WideShapes Go.ChangeAt Go.RowKit Go.PlainAid
set_option linter.unusedVariables false

/-- a guard, as a value -/
def grdV (a : Option Addr) (n c : Nat) (al : Int) : Value := .agg #[.slice a n c, .int .i64 al]
def grdC (a : Option Addr) (n c : Nat) (al : Int) : Obj := .cells #[.slice a n c, .int .i64 al] 30
end Go.Proofs.YtdifmjcghaoilaaGreatDoor.G

namespace Go.Proofs.YtdifmjcghaoilaaGreatDoor.G.H
open Go.RowKit Go.PlainAid
set_option linter.unusedVariables false

theorem holdsI (l m n : Int) (b : Bool) (hb : decide (l ≤ n ∧ n ≤ m) = b) (w : World) : Calls Tryz.prog 95 #[.agg #[.int .i64 l, .int .i64 m], .int .i64 n] w fun e w' => e = .returned (.bool b) ∧ Below w.heap.size w w' := by
  go_enter Tryz.func95, Tryz.ntmps95
  by_cases h1 : l ≤ n
  · by_cases h2 : n ≤ m
    · go_wp2
      go_ret
      exact ⟨by rw [← hb, decide_eq_true ⟨h1, h2⟩]; rfl, (Below.refl _ _).alloc (Nat.le_refl _) _⟩
    · go_wp2
      go_ret
      exact ⟨by rw [← hb, decide_eq_false (fun h => by omega)]; rfl, (Below.refl _ _).alloc (Nat.le_refl _) _⟩
  · go_wp2
    go_ret
    exact ⟨by rw [← hb, decide_eq_false (fun h => by omega)]; rfl, (Below.refl _ _).alloc (Nat.le_refl _) _⟩

theorem inS (l m n : Int) (b : Bool) (hb : decide (l ≤ n ∧ n ≤ m) = b) (w : World) : Calls Tryz.prog 59 #[.int .i64 n, .int .i64 l, .int .i64 m] w fun e w' => e = .returned (.bool b) ∧ w' = w := by
  go_enter Tryz.func59, Tryz.ntmps59
  by_cases h1 : l ≤ n
  · by_cases h2 : n ≤ m
    · go_wp2
      go_ret
      exact ⟨by rw [← hb, decide_eq_true ⟨h1, h2⟩]; rfl, rfl⟩
    · go_wp2
      go_ret
      exact ⟨by rw [← hb, decide_eq_false (fun h => by omega)]; rfl, rfl⟩
  · go_wp2
    go_ret
    exact ⟨by rw [← hb, decide_eq_false (fun h => by omega)]; rfl, rfl⟩

theorem bel_on {w W W' : World} {B : Nat} (hB : B ≤ w.heap.size) (h : Below B w W) (hb : Below W.heap.size W W') : Below B w W' := h.trans (hb.mono (Nat.le_trans hB h.size))
theorem senseS (n : Int) (b : Bool) (hb : decide (0 ≤ n ∧ n ≤ 15) = b) (w : World) : Calls Tryz.prog 34 #[.int .i64 n] w fun e w' => e = .returned (.bool b) ∧ w' = w := by
  go_enter Tryz.func34, Tryz.ntmps34
  go_wp2_with fail
  refine (inS 0 15 n b hb _).mono ?_
  rintro e w1 ⟨rfl, rfl⟩
  go_wp2
  go_ret
  exact ⟨rfl, rfl⟩

theorem senseI (n : Int) (b : Bool) (hb : decide (0 ≤ n ∧ n ≤ 15) = b) (w : World) : Calls Tryz.prog 60 #[.int .i64 n] w fun e w' => e = .returned (.bool b) ∧ Below w.heap.size w w' := by
  go_enter Tryz.func60, Tryz.ntmps60
  go_wp2_with fail
  refine (holdsI 0 15 n b hb _).mono ?_
  rintro e w1 ⟨rfl, hb1⟩
  go_wp2
  go_ret
  exact ⟨rfl, hb1⟩

def bitB (a b : Int) : Bool := !(IntKind.u8.wrap ((BitVec.ofInt 8 a &&& BitVec.ofInt 8 b).toNat : Int) == 0)
def oneB (a : Int) : Bool := !(a == 0) && (IntKind.u8.wrap ((BitVec.ofInt 8 a &&& BitVec.ofInt 8 (IntKind.u8.wrap (a - 1))).toNat : Int) == 0)
def hasB (n o : Int) : Bool := decide (0 ≤ n ∧ n ≤ 15) && (decide (o = 1 ∨ o = 2 ∨ o = 4 ∨ o = 8) && decide (n / o % 2 = 1))
theorem has_fin : ∀ i j : Fin 16, hasB (i.val : Int) (j.val : Int) = (oneB (j.val : Int) && bitB (i.val : Int) (j.val : Int)) := by decide +kernel
theorem has_eq (n o : Int) (hn : 0 ≤ n ∧ n ≤ 15) (ho : 0 ≤ o ∧ o ≤ 15) : hasB n o = (oneB o && bitB n o) := by
  have h := has_fin ⟨n.toNat, by omega⟩ ⟨o.toNat, by omega⟩
  have e1 : ((n.toNat : Nat) : Int) = n := by omega
  have e2 : ((o.toNat : Nat) : Int) = o := by omega
  simp only [e1, e2] at h
  exact h
theorem has_no1 (n o : Int) (hn : ¬ (0 ≤ n ∧ n ≤ 15)) : hasB n o = false := by
  unfold hasB
  rw [decide_eq_false hn]; rfl
theorem has_no2 (n o : Int) (ho : ¬ (0 ≤ o ∧ o ≤ 15)) : hasB n o = false := by
  unfold hasB
  rw [decide_eq_false (p := o = 1 ∨ o = 2 ∨ o = 4 ∨ o = 8) (by omega)]; simp
end Go.Proofs.YtdifmjcghaoilaaGreatDoor.G.H

namespace Go.Proofs.YtdifmjcghaoilaaGreatDoor.G
open Go.RowKit Go.PlainAid
set_option linter.unusedVariables false
set_option linter.unusedSimpArgs false

def sumN : List Int → Int
  | [] => 0
  | x :: l => x + sumN l
theorem sumN_app (l m : List Int) : sumN (l ++ m) = sumN l + sumN m := by
  induction l with
  | nil => simp [sumN]
  | cons x l ih => simp only [List.cons_append, sumN, ih]; omega
theorem sumN_take {l : List Int} {j : Nat} (h : j < l.length) : sumN (l.take (j + 1)) = sumN (l.take j) + l[j] := by
  rw [← List.take_append_getElem h, sumN_app]
  simp [sumN]
/-- the sum, as it goes round -/
def sumW (l : List Int) : Int := IntKind.i64.wrap (sumN l)
theorem wrap_add (s x : Int) : IntKind.i64.wrap (IntKind.i64.wrap s + x) = IntKind.i64.wrap (s + x) := by
  rw [IntKind.wrap_i64, IntKind.wrap_i64, IntKind.wrap_i64]
  omega
theorem sumW_take {l : List Int} {j : Nat} (h : j < l.length) : IntKind.i64.wrap (sumW (l.take j) + l[j]) = sumW (l.take (j + 1)) := by
  unfold sumW
  rw [wrap_add, sumN_take h]
theorem sumW_zero (l : List Int) : sumW (l.take 0) = 0 := by
  unfold sumW
  rw [List.take_zero]
  exact wrap_in (by simp [sumN]) (by simp [sumN])
theorem sumW_all (l : List Int) : sumW (l.take l.length) = sumW l := by rw [List.take_length]
def AllG (l : List Int) (j : Nat) : Prop := ∀ i (h : i < l.length), i < j → 0 ≤ l[i] ∧ l[i] ≤ 30
theorem allG_zero (l : List Int) : AllG l 0 := fun i _ h => by omega
theorem allG_succ {l : List Int} {j : Nat} (h : AllG l j) (hj : j < l.length) (hr : 0 ≤ l[j] ∧ l[j] ≤ 30) : AllG l (j + 1) := fun i hi hlt => by
  rcases Nat.lt_or_ge i j with h1 | h1
  · exact h i hi h1
  · have : i = j := by omega
    subst this
    exact hr
def GdR (l : List Int) (al : Int) : Prop := l.length ≤ 9 ∧ (0 ≤ al ∧ al ≤ 15) ∧ (∀ i (h : i < l.length), 0 ≤ l[i] ∧ l[i] ≤ 30) ∧ sumN l ≤ 30
theorem sumN_bd {l : List Int} (h : ∀ i (h : i < l.length), 0 ≤ l[i] ∧ l[i] ≤ 30) : 0 ≤ sumN l ∧ sumN l ≤ 30 * l.length := by
  induction l with
  | nil => simp [sumN]
  | cons x l ih =>
    have h0 := h 0 (by simp)
    have h1 := ih (fun i hi => by have := h (i + 1) (by simp; omega); simpa using this)
    simp only [sumN, List.length_cons, List.getElem_cons_zero] at *
    omega
theorem sumW_in {l : List Int} (h : ∀ i (h : i < l.length), 0 ≤ l[i] ∧ l[i] ≤ 30) (hl : l.length ≤ 9) : sumW l = sumN l := by
  have := sumN_bd h
  unfold sumW
  exact wrap_in (by omega) (by omega)
theorem gd_bool (l : List Int) (al : Int) : ∃ b : Bool, b = true ↔ GdR l al := by
  by_cases h : GdR l al
  · exact ⟨true, fun _ => h, fun _ => rfl⟩
  · exact ⟨false, fun e => (by cases e), fun e => absurd e h⟩
theorem not_gd {l : List Int} {al : Int} {b : Bool} (hb : b = true ↔ GdR l al) (h : ¬ GdR l al) : b = false := by
  cases b
  · rfl
  · exact absurd (hb.1 rfl) h
theorem gd_end {l : List Int} {al : Int} {b : Bool} (hb : b = true ↔ GdR l al) (h1 : l.length ≤ 9) (h2 : 0 ≤ al ∧ al ≤ 15) (h3 : AllG l l.length) : decide (sumW l ≤ 30) = b := by
  have h3' : ∀ i (h : i < l.length), 0 ≤ l[i] ∧ l[i] ≤ 30 := fun i h => h3 i h h
  rw [sumW_in h3' h1]
  by_cases h : sumN l ≤ 30
  · rw [decide_eq_true h]; exact (hb.2 ⟨h1, h2, h3', h⟩).symm
  · rw [decide_eq_false h]; exact (not_gd hb (fun x => h x.2.2.2)).symm
/-- what is left to be let through, of a right guard -/
theorem room_bd {l : List Int} {al : Int} (h : GdR l al) : IntKind.i64.wrap (30 - sumW l) = 30 - sumN l ∧ 0 ≤ 30 - sumN l ∧ 30 - sumN l ≤ 30 := by
  have h1 := sumN_bd h.2.2.1
  have h2 := h.2.2.2
  rw [sumW_in h.2.2.1 h.1]
  exact ⟨wrap_in (by omega) (by omega), by omega, by omega⟩
end Go.Proofs.YtdifmjcghaoilaaGreatDoor.G

namespace Go.Proofs.YtdifmjcghaoilaaGreatDoor.G
open Go.RowKit Go.PlainAid
set_option linter.unusedVariables false
set_option linter.unusedSimpArgs false

/-- the first j bits that one of two has -/
def orJ (a b : Int) : Nat → Int
  | 0 => 0
  | j + 1 => orJ a b j + (if a / 2 ^ j % 2 = 1 ∨ b / 2 ^ j % 2 = 1 then 2 ^ j else 0)
def orI (a b : Int) : Int := orJ a b 4
theorem pow_bd (j : Nat) (h : j ≤ 4) : 1 ≤ (2 : Int) ^ j ∧ (2 : Int) ^ j ≤ 16 := by
  have : j = 0 ∨ j = 1 ∨ j = 2 ∨ j = 3 ∨ j = 4 := by omega
  rcases this with rfl | rfl | rfl | rfl | rfl <;> decide
theorem orJ_bd (a b : Int) (j : Nat) (h : j ≤ 4) : 0 ≤ orJ a b j ∧ orJ a b j ≤ 2 ^ j - 1 := by
  induction j with
  | zero => simp [orJ]
  | succ j ih =>
    have h1 := ih (by omega)
    have h2 := pow_bd j (by omega)
    have h3 : (2 : Int) ^ (j + 1) = 2 ^ j * 2 := Int.pow_succ _ _
    unfold orJ
    split <;> omega
theorem orI_bd (a b : Int) : 0 ≤ orI a b ∧ orI a b ≤ 15 := by
  have := orJ_bd a b 4 (by omega)
  unfold orI
  omega
theorem div_bd {a t : Int} (ha : 0 ≤ a ∧ a ≤ 15) (ht : 1 ≤ t) : 0 ≤ a / t ∧ a / t ≤ 15 := by
  refine ⟨Int.ediv_nonneg ha.1 (by omega), ?_⟩
  have := Int.ediv_le_self t ha.1
  omega
set_option maxRecDepth 100000 in
set_option maxHeartbeats 2000000 in
theorem bothS (a b : Int) (ha : 0 ≤ a ∧ a ≤ 15) (hb : 0 ≤ b ∧ b ≤ 15) (z : Int) (hz : orI a b = z) (w : World) :
    Calls Tryz.prog 35 #[.int .i64 a, .int .i64 b] w fun e w' => e = .returned (.int .i64 z) ∧ w' = w := by
  have HZ : Hid (orI a b = z) := hz
  have HA : Hid (0 ≤ a ∧ a ≤ 15) := ha
  have HB : Hid (0 ≤ b ∧ b ≤ 15) := hb
  clear hz ha hb
  go_enter Tryz.func35, Tryz.ntmps35
  go_wp2
  go_loopg [5, 6, 7] 4 (fun gk s t i wr => ∃ (j : Nat) (S T : Int), j + gk = 4 ∧ i = .int .i64 j ∧ s = .int .i64 S ∧ t = .int .i64 T ∧ Hid (S = orJ a b j ∧ T = 2 ^ j) ∧ wr = w)
  case atStart => exact ⟨0, 0, 1, by omega, rfl, rfl, rfl, (show _ ∧ _ from ⟨rfl, rfl⟩), rfl⟩
  case round =>
    obtain ⟨j, S, T, hj, rfl, rfl, rfl, HS, rfl⟩ := hrel
    by_cases hlt : j < 4
    · have hT := pow_bd j (by omega)
      rw [← HS.out.2] at hT
      have hS := orJ_bd a b j (by omega)
      rw [← HS.out.1, ← HS.out.2] at hS
      have tz : ¬ T = 0 := by omega
      obtain ⟨x, hx⟩ : ∃ x, a / T = x := ⟨_, rfl⟩
      obtain ⟨y, hy⟩ : ∃ y, b / T = y := ⟨_, rfl⟩
      have hx0 := div_bd HA.out hT.1
      have hy0 := div_bd HB.out hT.1
      rw [hx] at hx0
      rw [hy] at hy0
      have x1 : a.tdiv T = x := by rw [Int.tdiv_eq_ediv_of_nonneg HA.out.1]; exact hx
      have x2 : wrap64 x = x := wrap64_in (by omega) (by omega)
      have y1 : b.tdiv T = y := by rw [Int.tdiv_eq_ediv_of_nonneg HB.out.1]; exact hy
      have y2 : wrap64 y = y := wrap64_in (by omega) (by omega)
      obtain ⟨x3, hx3⟩ : ∃ x3, x % 2 = x3 := ⟨_, rfl⟩
      obtain ⟨y3, hy3⟩ : ∃ y3, y % 2 = y3 := ⟨_, rfl⟩
      have x4 : x.tmod 2 = x3 := by rw [Int.tmod_eq_emod_of_nonneg hx0.1]; exact hx3
      have y4 : y.tmod 2 = y3 := by rw [Int.tmod_eq_emod_of_nonneg hy0.1]; exact hy3
      have qi : IntKind.i64.wrap ((j : Int) + 1) = (j : Int) + 1 := wrap_in (by omega) (by omega)
      obtain ⟨T2, hT2⟩ : ∃ T2, 2 * T = T2 := ⟨_, rfl⟩
      have qt : IntKind.i64.wrap (2 * T) = T2 := by rw [hT2]; exact wrap_in (by omega) (by omega)
      have qt' : wrap64 (2 * T) = T2 := by rw [hT2]; exact wrap64_in (by omega) (by omega)
      obtain ⟨S2, hS2⟩ : ∃ S2, S + T = S2 := ⟨_, rfl⟩
      have qs : IntKind.i64.wrap (S + T) = S2 := by rw [hS2]; exact wrap_in (by omega) (by omega)
      have HT2 : Hid (T2 = 2 ^ (j + 1)) := by show _ = _; rw [← hT2, HS.out.2, Int.pow_succ]; omega
      have HJ : Hid (orJ a b (j + 1) = S + (if x3 = 1 ∨ y3 = 1 then T else 0)) := by
        show _ = _
        unfold orJ
        rw [← HS.out.1, ← HS.out.2, hx, hy, hx3, hy3]
      clear hT2 hx hy hx3 hy3 hT hS hx0 hy0 HS
      by_cases c1 : x3 = 1
      · have HN : Hid (S2 = orJ a b (j + 1) ∧ T2 = 2 ^ (j + 1)) := ⟨by rw [HJ.out, if_pos (Or.inl c1)]; exact hS2.symm, HT2.out⟩
        subst c1
        clear HJ HT2 hS2 y1 y2 y4
        go_wp2
        go_roundg (gk - 1)
        case measure => omega
        case rel => exact ⟨j + 1, S2, T2, by omega, by go_num, rfl, rfl, HN, rfl⟩
      · have q1 : (x3 == 1) = false := by simpa using c1
        by_cases c2 : y3 = 1
        · have HN : Hid (S2 = orJ a b (j + 1) ∧ T2 = 2 ^ (j + 1)) := ⟨by rw [HJ.out, if_pos (Or.inr c2)]; exact hS2.symm, HT2.out⟩
          subst c2
          clear HJ HT2 hS2 c1
          go_wp2
          go_roundg (gk - 1)
          case measure => omega
          case rel => exact ⟨j + 1, S2, T2, by omega, by go_num, rfl, rfl, HN, rfl⟩
        · have q2 : (y3 == 1) = false := by simpa using c2
          have HN : Hid (S = orJ a b (j + 1) ∧ T2 = 2 ^ (j + 1)) := ⟨by rw [HJ.out, if_neg (by omega)]; omega, HT2.out⟩
          clear HJ HT2 hS2 c1 c2 qs
          go_wp2
          go_roundg (gk - 1)
          case measure => omega
          case rel => exact ⟨j + 1, S, T2, by omega, by go_num, rfl, rfl, HN, rfl⟩
    · obtain rfl : j = 4 := by omega
      have HE : Hid (S = z) := by show _ = _; rw [HS.out.1]; exact HZ.out
      clear HS HZ
      go_wp2
      go_ret
      exact ⟨by rw [HE.out]; rfl, rfl⟩
/-- what is let through of x -/
def letG (l : List Int) (x : Int) : Int := max (min x (30 - sumN l)) 0
end Go.Proofs.YtdifmjcghaoilaaGreatDoor.G

namespace Go.Proofs.YtdifmjcghaoilaaGreatDoor.G
open Go.RowKit Go.PlainAid
set_option linter.unusedVariables false
set_option linter.unusedSimpArgs false

theorem alG (w : World) (o : Obj) : Below w.heap.size w (w.alloc o) := (Below.refl _ _).alloc (Nat.le_refl _) _
theorem al_atG (w : World) (o : Obj) {k : Nat} (h : w.heap.size = k) : (w.alloc o).heap[k]? = some o := by subst h; exact heap_new w o
theorem set_rowG {w : World} {k : Nat} {T : TypeId} {a : Array Value} (h : w.heap[k]? = some (.cells a T)) (i : Nat) (x : Value) : (w.setCell ⟨k, i, none⟩ x).heap[k]? = some (.cells (a.setIfInBounds i x) T) := heap_setCell_same w k i _ _ x h
/-- what a store leaves: one row is another, all else is as it was -/
def PutG (w w' : World) (g : Nat) (o : Obj) : Prop := w'.heap[g]? = some o ∧ (∀ k, k ≠ g → w'.heap[k]? = w.heap[k]?) ∧ w'.heap.size = w.heap.size ∧ (∀ B W, B ≤ g → Below B W w → Below B W w')
theorem PutG.far {w w' : World} {g k : Nat} {o p : Obj} (h : PutG w w' g o) (hr : w.heap[k]? = some p) (hne : k ≠ g) : w'.heap[k]? = some p := (h.2.1 k hne).trans hr
theorem own_same {w w' : World} {B g n c : Nat} {l : List Int} (h : OwnN w B g n c l) (hg : w'.heap[g]? = w.heap[g]?) : OwnN w' B g n c l := by
  refine ⟨h.1, ?_⟩
  rcases h.2 with h2 | ⟨g', cap, cur, e, h3, h4, h5⟩
  · exact .inl h2
  · cases e
    exact .inr ⟨_, _, _, rfl, h3, hg.trans h4, h5⟩
theorem OwnN.cap {w : World} {B g n c : Nat} {l : List Int} (h : OwnN w B g n c l) : n ≤ c := by
  rcases h.2 with h2 | ⟨g', cap, cur, e, h3, h4, h5, _⟩
  · cases h2.1
  · cases e
    exact h5
theorem rd_take {w : World} {a : Option Addr} {l : List Int} (h : Rd w a l) (m : Nat) : Rd w a (l.take m) := fun h0 => by
  have hl : (l.take m).length ≤ l.length := by simp; omega
  obtain ⟨g, off, ha, hc⟩ := h (by omega)
  refine ⟨g, off, ha, fun j hj => ?_⟩
  rw [List.getElem_take]
  exact hc j (by omega)
theorem PutG.own {w w' : World} {g B k n c : Nat} {o : Obj} {l : List Int} (h : PutG w w' g o) (hr : OwnN w B k n c l) (hne : k ≠ g) : OwnN w' B k n c l := own_same hr (h.2.1 k hne)
/-- a guard stored into a row, as one -/
theorem listStoreG {ops : Array Oper} {rest : List Oper} {o : Oper} {a : Act} {Q : Exit → Act → World → Prop} {w : World} (hgd : o.guard = none) (hd : o.dst = none) (x y : Operand) (ty : TypeId) (ho : o.op = .store ty x y) (hty : ty = 30)
    (g : Nat) (q : Option Addr) (n c : Nat) (z : Int) (hx : a.eval x = .pointer (some ⟨g, 0, none⟩)) (hy : a.eval y = .agg #[.slice q n c, .int .i64 z])
    {u0 u1 : Value} (hg : w.heap[g]? = some (.cells #[u0, u1] 30))
    (h : ∀ w' : World, PutG w w' g (.cells #[.slice q n c, .int .i64 z] 30) → wpList Tryz.prog ops Q rest a w') : wpList Tryz.prog ops Q (o :: rest) a w := by
  subst hty
  refine wpList_store_rowTo hgd _ x y ho hd g _ hx hy _ _ hg (by kernel_rfl) rfl (by kernel_rfl) ?_
  refine h _ ⟨setRow_heap w g _ _ _ _ hg, fun k hk => setRow_other w g k _ hk, setRow_size w g _, fun B W hB hb => ?_⟩
  exact ⟨hb.os, hb.tape, hb.output, by rw [setRow_size]; exact hb.size, fun k hk => by rw [setRow_other w g k _ (by omega)]; exact hb.block k hk⟩
theorem storeV_run {w : World} {g i : Nat} {z : Int} {cs : Array Value} {T : TypeId} (hg : w.heap[g]? = some (.cells cs T)) (hi : i < cs.size) : (Instr.storeAt 3 (.pointer (some ⟨g, i, none⟩)) (.int .i64 z)).run Tryz.prog w = .ok () (w.setCell ⟨g, i, none⟩ (.int .i64 z)) := by
  have k1 : w.cell? ⟨g, i, none⟩ = some cs[i] := by simp [World.cell?, hg, hi]
  have k2 : w.frozen? ⟨g, i, none⟩ = false := by simp [World.frozen?, hg]
  simp [go_sem, Instr.storeAt, k1, k2]
theorem storeL_run {w : World} {g i : Nat} {q : Option Addr} {n c : Nat} {cs : Array Value} {T : TypeId} (hg : w.heap[g]? = some (.cells cs T)) (hi : i < cs.size) : (Instr.storeAt 28 (.pointer (some ⟨g, i, none⟩)) (.slice q n c)).run Tryz.prog w = .ok () (w.setCell ⟨g, i, none⟩ (.slice q n c)) := by
  have k1 : w.cell? ⟨g, i, none⟩ = some cs[i] := by simp [World.cell?, hg, hi]
  have k2 : w.frozen? ⟨g, i, none⟩ = false := by simp [World.frozen?, hg]
  simp [go_sem, Instr.storeAt, k1, k2]
theorem putG_set {w : World} {g i : Nat} {v : Value} {cs : Array Value} {T : TypeId} (hg : w.heap[g]? = some (.cells cs T)) : PutG w (w.setCell ⟨g, i, none⟩ v) g (.cells (cs.setIfInBounds i v) T) :=
  ⟨set_rowG hg i _, fun k hk => Below.heap_setCell _ _ _ _ hk, by simp, fun B W hB hb => hb.setCell hB _⟩
/-- one number stored into a row -/
theorem listStoreI {ops : Array Oper} {rest : List Oper} {o : Oper} {a : Act} {Q : Exit → Act → World → Prop} {w : World} (hgd : o.guard = none) (hd : o.dst = none) (x y : Operand) (ty : TypeId) (ho : o.op = .store ty x y) (hty : ty = 3)
    (g i : Nat) (z : Int) (hx : a.eval x = .pointer (some ⟨g, i, none⟩)) (hy : a.eval y = .int .i64 z)
    {cs : Array Value} {T : TypeId} (hg : w.heap[g]? = some (.cells cs T)) (hi : i < cs.size)
    (h : ∀ w' : World, PutG w w' g (.cells (cs.setIfInBounds i (.int .i64 z)) T) → wpList Tryz.prog ops Q rest a w') : wpList Tryz.prog ops Q (o :: rest) a w := by
  subst hty
  refine wpList_plain hgd fun _ hK => ?_
  unfold Oper.wp
  simp only [execOp, ho, hx, hy, Sem.run_bind, storeV_run hg hi, Result.andThen, Sem.run_pure]
  exact hK _ _ (by rw [hd]; exact h _ (putG_set hg))
/-- a list stored into a row -/
theorem listStoreL {ops : Array Oper} {rest : List Oper} {o : Oper} {a : Act} {Q : Exit → Act → World → Prop} {w : World} (hgd : o.guard = none) (hd : o.dst = none) (x y : Operand) (ty : TypeId) (ho : o.op = .store ty x y) (hty : ty = 28)
    (g i : Nat) (q : Option Addr) (n c : Nat) (hx : a.eval x = .pointer (some ⟨g, i, none⟩)) (hy : a.eval y = .slice q n c)
    {cs : Array Value} {T : TypeId} (hg : w.heap[g]? = some (.cells cs T)) (hi : i < cs.size)
    (h : ∀ w' : World, PutG w w' g (.cells (cs.setIfInBounds i (.slice q n c)) T) → wpList Tryz.prog ops Q rest a w') : wpList Tryz.prog ops Q (o :: rest) a w := by
  subst hty
  refine wpList_plain hgd fun _ hK => ?_
  unfold Oper.wp
  simp only [execOp, ho, hx, hy, Sem.run_bind, storeL_run hg hi, Result.andThen, Sem.run_pure]
  exact hK _ _ (by rw [hd]; exact h _ (putG_set hg))
def feelA (b : Bool) (al x : Int) (seen : Bool) : Int := if b = true ∧ (0 ≤ x ∧ x ≤ 15) then (if seen = true then x else orI al x) else al
/-- three boxed guards behind what only grew -/
def KG3 (w w' : World) (Q : Nat) (p z q : Obj) : Prop := w'.heap[w.heap.size]? = some p ∧ w'.heap[w.heap.size + 1]? = some z ∧ w'.heap[Q]? = some q ∧ Below w.heap.size w w'
theorem KG3.on {w w' w2 : World} {Q : Nat} {p z q : Obj} (h : KG3 w w' Q p z q) (hb : Below w'.heap.size w' w2) : KG3 w w2 Q p z q := ⟨row_on h.1 hb, row_on h.2.1 hb, row_on h.2.2.1 hb, bel_on (Nat.le_refl _) h.2.2.2 hb⟩
theorem KG3.grown {w w' w2 : World} {Q k : Nat} {p z q : Obj} (h : KG3 w w' Q p z q) (hg : w'.grownBy w2 (some k)) (h1 : w.heap.size + 1 < k) (h2 : Q ≠ k) : KG3 w w2 Q p z q := by
  have b : ∀ m o, w'.heap[m]? = some o → m ≠ k → w2.heap[m]? = some o := fun m o hm hne => (hg.block m (row_lt hm) (fun e => hne (Option.some.inj e))).trans hm
  exact ⟨b _ _ h.1 (by omega), b _ _ h.2.1 (by omega), b _ _ h.2.2.1 h2, h.2.2.2.grown hg h.2.2.2.size (fun m hm => by cases hm; omega)⟩
theorem kg_conj {w w' : World} {Q : Nat} {x y : Value} {T : TypeId} {z q : Obj} (h : KG3 w w' Q (.cells #[x, y] T) z q) : w'.cell? ⟨w.heap.size, 0, none⟩ = some x ∧ w'.cell? ⟨w.heap.size, 1, none⟩ = some y ∧ Below w.heap.size w w' := by
  refine ⟨?_, ?_, h.2.2.2⟩ <;> simp [World.cell?, h.1]
def passL (b : Bool) (l : List Int) (x : Int) : List Int := if b = true then (letG l x :: l).take 9 else l
end Go.Proofs.YtdifmjcghaoilaaGreatDoor.G

namespace Go.Proofs.YtdifmjcghaoilaaGreatDoor.G
open Go.RowKit Go.PlainAid
set_option linter.unusedVariables false

theorem letG_bd {l : List Int} {al : Int} (h : GdR l al) (x : Int) : 0 ≤ letG l x ∧ letG l x ≤ 30 - sumN l ∧ letG l x ≤ 30 := by
  have h1 := sumN_bd h.2.2.1
  have h2 := h.2.2.2
  unfold letG
  omega
theorem sumN_cut {l : List Int} (h : ∀ i (h : i < l.length), 0 ≤ l[i] ∧ l[i] ≤ 30) (m : Nat) : sumN (l.take m) ≤ sumN l := by
  have e : l.take m ++ l.drop m = l := List.take_append_drop m l
  have h1 : 0 ≤ sumN (l.drop m) := (sumN_bd (fun i hi => by
    rw [List.getElem_drop]
    exact h _ (by simp at hi; omega))).1
  have h2 : sumN (l.take m ++ l.drop m) = sumN (l.take m) + sumN (l.drop m) := sumN_app _ _
  rw [e] at h2
  omega
theorem gd_cons {l : List Int} {al v : Int} (h : GdR l al) (hv : 0 ≤ v ∧ v ≤ 30) : ∀ i (h : i < (v :: l).length), 0 ≤ (v :: l)[i] ∧ (v :: l)[i] ≤ 30 := by
  intro i hi
  cases i with
  | zero => exact hv
  | succ i => simpa using h.2.2.1 i (by simpa using hi)
theorem pass_ok {l : List Int} {al : Int} (h : GdR l al) (x : Int) : GdR ((letG l x :: l).take 9) al := by
  have hv := letG_bd h x
  have hc := gd_cons h ⟨hv.1, hv.2.2⟩
  refine ⟨by simp; omega, h.2.1, fun i hi => ?_, ?_⟩
  · rw [List.getElem_take]
    exact hc i (by simp at hi ⊢; omega)
  · have h1 := sumN_cut hc 9
    have h2 : sumN (letG l x :: l) = letG l x + sumN l := rfl
    omega
theorem passL_ok {l : List Int} {al : Int} (h : GdR l al) (b : Bool) (x : Int) : GdR (passL b l x) al := by
  unfold passL
  cases b
  · simpa using h
  · simpa using pass_ok h x
theorem feel_ok {l : List Int} {al : Int} (h : GdR l al) (b : Bool) (x : Int) (s : Bool) : GdR l (feelA b al x s) := by
  refine ⟨h.1, ?_, h.2.2.1, h.2.2.2⟩
  have h1 := h.2.1
  have h2 := orI_bd al x
  unfold feelA
  split
  · rename_i hh
    split
    · exact hh.2
    · exact h2
  · exact h1
theorem gd_new : GdR [] 0 := ⟨by simp, by omega, fun i h => by simp at h, by simp [sumN]⟩
theorem gd_calm {l : List Int} {al : Int} (h : GdR l al) : GdR l 0 := ⟨h.1, by omega, h.2.2.1, h.2.2.2⟩
/-- a list that a guard owns, or none -/
def GOwn (W : World) (B : Nat) (q : Option Addr) (n c : Nat) (l : List Int) : Prop := (q = none ∧ n = 0 ∧ c = 0 ∧ l = []) ∨ ∃ g, q = some ⟨g, 0, none⟩ ∧ OwnN W B g n c l
theorem GOwn.rd {W : World} {B : Nat} {q : Option Addr} {n c : Nat} {l : List Int} (h : GOwn W B q n c l) : Rd W q l := by
  rcases h with ⟨_, _, _, rfl⟩ | ⟨g, rfl, h⟩
  · intro h; simp at h
  · exact h.rd
theorem GOwn.nn {W : World} {B : Nat} {q : Option Addr} {n c : Nat} {l : List Int} (h : GOwn W B q n c l) : q = none → n = 0 ∧ c = 0 := by
  rcases h with ⟨_, h1, h2, _⟩ | ⟨g, rfl, h⟩
  · exact fun _ => ⟨h1, h2⟩
  · intro e; cases e
theorem GOwn.len {W : World} {B : Nat} {q : Option Addr} {n c : Nat} {l : List Int} (h : GOwn W B q n c l) : l.length = n := by
  rcases h with ⟨_, rfl, _, rfl⟩ | ⟨g, rfl, h⟩
  · rfl
  · exact h.len
theorem GOwn.on {W W' : World} {B : Nat} {q : Option Addr} {n c : Nat} {l : List Int} (h : GOwn W B q n c l) (hb : Below W.heap.size W W') : GOwn W' B q n c l := by
  rcases h with h | ⟨g, rfl, h⟩
  · exact .inl h
  · exact .inr ⟨g, rfl, h.on hb⟩
theorem GOwn.grown {W W' : World} {B C : Nat} {q : Option Addr} {n c : Nat} {l : List Int} (h : GOwn W B q n c l) (hg : W.grownBy W' (some C)) (hC : C < B) : GOwn W' B q n c l := by
  rcases h with h | ⟨g, rfl, h⟩
  · exact .inl h
  · exact .inr ⟨g, rfl, h.grown hg (by have := h.ge; omega)⟩
theorem GOwn.far {W W' : World} {B : Nat} {q : Option Addr} {n c : Nat} {l : List Int} (h : GOwn W B q n c l) (hk : ∀ k, B ≤ k → W'.heap[k]? = W.heap[k]?) : GOwn W' B q n c l := by
  rcases h with h | ⟨g, rfl, h⟩
  · exact .inl h
  · exact .inr ⟨g, rfl, own_same h (hk g h.ge)⟩
end Go.Proofs.YtdifmjcghaoilaaGreatDoor.G

namespace Go.Proofs.YtdifmjcghaoilaaGreatDoor.G
open Go.RowKit Go.PlainAid
set_option linter.unusedVariables false

theorem sumN_rev (l : List Int) : sumN l.reverse = sumN l := by
  induction l with
  | nil => rfl
  | cons x l ih =>
    rw [List.reverse_cons, sumN_app, ih]
    simp only [sumN]
    omega
/-- all are of 0 .. 30, and no ten one behind the other are more than 30 -/
def AllR (l : List Int) : Prop := ∀ x ∈ l, 0 ≤ x ∧ x ≤ 30
theorem AllR.of {l : List Int} (h : AllR l) : ∀ i (h : i < l.length), 0 ≤ l[i] ∧ l[i] ≤ 30 := fun i hi => h _ (List.getElem_mem _)
theorem AllR.take {l : List Int} (h : AllR l) (m : Nat) : AllR (l.take m) := fun x hx => h x (List.mem_of_mem_take hx)
theorem AllR.drop {l : List Int} (h : AllR l) (m : Nat) : AllR (l.drop m) := fun x hx => h x (List.mem_of_mem_drop hx)
theorem allR_sum {l : List Int} (h : AllR l) : 0 ≤ sumN l ∧ sumN l ≤ 30 * l.length := sumN_bd h.of
theorem allR_cut {l : List Int} (h : AllR l) (m : Nat) : sumN (l.take m) ≤ sumN l := sumN_cut h.of m
def Win (R : List Int) : Prop := ∀ i, sumN ((R.drop i).take 10) ≤ 30
/-- what was passed, R, and what the guard keeps of it, l -/
structure Pas (R l : List Int) : Prop where
  all : AllR R
  win : Win R
  eq : l = R.reverse.take 9
  sum : sumN l ≤ 30
theorem drop_sum {R : List Int} (h : AllR R) (i : Nat) (hi : R.length - i ≤ 9) : sumN (R.drop i) ≤ sumN (R.reverse.take 9) := by
  have e : (R.drop i).reverse = R.reverse.take (R.length - i) := by
    rw [List.reverse_drop]
  have h1 : sumN (R.drop i) = sumN (R.reverse.take (R.length - i)) := by rw [← e, sumN_rev]
  rw [h1]
  have h2 : (R.reverse.take 9).take (R.length - i) = R.reverse.take (R.length - i) := by
    rw [List.take_take, Nat.min_eq_left hi]
  rw [← h2]
  exact allR_cut (fun x hx => h x (by have := List.mem_of_mem_take hx; simpa using this)) _
theorem pas_start {l : List Int} {al : Int} (h : GdR l al) : Pas l.reverse l := by
  have hall : AllR l := fun x hx => by
    obtain ⟨i, hi, rfl⟩ := List.getElem_of_mem hx
    exact h.2.2.1 i hi
  have hr : AllR l.reverse := fun x hx => hall x (by simpa using hx)
  refine ⟨hr, fun i => ?_, ?_, h.2.2.2⟩
  · have h1 := allR_cut (hr.drop i) 10
    have h2 : sumN (l.reverse.drop i) ≤ sumN l.reverse := by
      have e := sumN_app (l.reverse.take i) (l.reverse.drop i)
      rw [List.take_append_drop] at e
      have := (allR_sum (hr.take i)).1
      omega
    rw [sumN_rev] at h2
    have := h.2.2.2
    omega
  · rw [List.reverse_reverse, List.take_of_length_le h.1]
theorem pas_step {R l : List Int} (h : Pas R l) (hl : GdR l 0) (x : Int) : Pas (R ++ [letG l x]) ((letG l x :: l).take 9) := by
  have hv := letG_bd hl x
  have hp := pass_ok hl x
  obtain ⟨v, hve⟩ : ∃ v, letG l x = v := ⟨_, rfl⟩
  rw [hve] at hv hp ⊢
  have hall : AllR (R ++ [v]) := fun y hy => by
    rcases List.mem_append.1 hy with hy | hy
    · exact h.all y hy
    · rw [List.mem_singleton.1 hy]
      exact ⟨hv.1, hv.2.2⟩
  refine ⟨hall, fun i => ?_, ?_, hp.2.2.2⟩
  · by_cases hi : i + 10 ≤ R.length
    · have e : ((R ++ [v]).drop i).take 10 = (R.drop i).take 10 := by
        rw [List.drop_append_of_le_length (by omega), List.take_append_of_le_length (by rw [List.length_drop]; omega)]
      rw [e]
      exact h.win i
    · by_cases hi2 : i ≤ R.length
      · have h1 := allR_cut (hall.drop i) 10
        have e : (R ++ [v]).drop i = R.drop i ++ [v] := List.drop_append_of_le_length hi2
        have h2 : sumN ((R ++ [v]).drop i) = sumN (R.drop i) + v := by rw [e, sumN_app]; simp [sumN]
        have h3 := drop_sum h.all i (by omega)
        rw [← h.eq] at h3
        omega
      · have e : (R ++ [v]).drop i = [] := List.drop_eq_nil_of_le (by simp; omega)
        rw [e]
        simp [sumN]
  · rw [List.reverse_append, h.eq]
    simp [List.take_take]
theorem win_small {R : List Int} (h : AllR R) (i m : Nat) (hm : m ≤ 10) : 0 ≤ sumN ((R.drop i).take m) ∧ sumN ((R.drop i).take m) ≤ 300 := by
  have := allR_sum ((h.drop i).take m)
  have hl : ((R.drop i).take m).length ≤ 10 := by rw [List.length_take]; omega
  omega
theorem win_next {R : List Int} {i m : Nat} (h : i + m < R.length) : sumN ((R.drop i).take (m + 1)) = sumN ((R.drop i).take m) + R[i + m] := by
  have hd : m < (R.drop i).length := by rw [List.length_drop]; omega
  rw [sumN_take hd, List.getElem_drop]
theorem win_all {R : List Int} {i m : Nat} (h : Win R) (hm : m = 10 ∨ R.length ≤ i + m) (hm2 : m ≤ 10) : sumN ((R.drop i).take m) ≤ 30 := by
  have h1 := h i
  rcases hm with rfl | hm
  · exact h1
  · have e : (R.drop i).take m = (R.drop i).take 10 := by
      rw [List.take_of_length_le (by rw [List.length_drop]; omega), List.take_of_length_le (by rw [List.length_drop]; omega)]
    rw [e]
    exact h1
theorem rev_next {l : List Int} {j : Nat} (h : j < l.length) : (l.drop (j + 1)).reverse ++ [l[j]] = (l.drop j).reverse := by
  rw [← List.getElem_cons_drop h, List.reverse_cons]
end Go.Proofs.YtdifmjcghaoilaaGreatDoor.G

namespace Go.Proofs.YtdifmjcghaoilaaGreatDoor
open Go.RowKit Go.PlainAid
set_option linter.unusedVariables false
set_option linter.unusedSimpArgs false

theorem alM (w : World) (o : Obj) : Below w.heap.size w (w.alloc o) := (Below.refl _ _).alloc (Nat.le_refl _) _
/-- what a store leaves: one row is another, all else is as it was -/
def PutM (w w' : World) (g : Nat) (o : Obj) : Prop := w'.heap[g]? = some o ∧ (∀ k, k ≠ g → w'.heap[k]? = w.heap[k]?) ∧ w'.heap.size = w.heap.size ∧ (∀ B W, B ≤ g → Below B W w → Below B W w')
theorem PutM.far {w w' : World} {g k : Nat} {o p : Obj} (h : PutM w w' g o) (hr : w.heap[k]? = some p) (hne : k ≠ g) : w'.heap[k]? = some p := (h.2.1 k hne).trans hr
theorem box5_cells {w : World} {k : Nat} {t : TypeId} {x0 x1 x2 x3 x4 : Value} (h : w.heap[k]? = some (.cells #[x0, x1, x2, x3, x4] t)) :
    (w.cell? ⟨k, 0, none⟩ = some x0 ∧ w.cell? ⟨k, 1, none⟩ = some x1 ∧ w.cell? ⟨k, 2, none⟩ = some x2 ∧ w.cell? ⟨k, 3, none⟩ = some x3 ∧ w.cell? ⟨k, 4, none⟩ = some x4) ∧ w.frozen? ⟨k, 0, none⟩ = false ∧ w.frozen? ⟨k, 1, none⟩ = false ∧ w.frozen? ⟨k, 2, none⟩ = false ∧ w.frozen? ⟨k, 3, none⟩ = false ∧ w.frozen? ⟨k, 4, none⟩ = false := by
  refine ⟨⟨?_, ?_, ?_, ?_, ?_⟩, ?_, ?_, ?_, ?_, ?_⟩ <;> simp [World.cell?, World.frozen?, h]
theorem putM_row {w : World} {g : Nat} {cs old : Array Value} {T : TypeId} (hg : w.heap[g]? = some (.cells old T)) : PutM w (w.setRow g cs) g (.cells cs T) :=
  ⟨setRow_heap w g _ _ _ _ hg, fun k hk => setRow_other w g k _ hk, setRow_size w g _, fun B W hB hb => ⟨hb.os, hb.tape, hb.output, by rw [setRow_size]; exact hb.size, fun k hk => by rw [setRow_other w g k _ (by omega)]; exact hb.block k hk⟩⟩
theorem putM_set {w : World} {g i : Nat} {v : Value} {cs : Array Value} {T : TypeId} (hg : w.heap[g]? = some (.cells cs T)) : PutM w (w.setCell ⟨g, i, none⟩ v) g (.cells (cs.setIfInBounds i v) T) :=
  ⟨heap_setCell_same w g i _ _ v hg, fun k hk => Below.heap_setCell _ _ _ _ hk, by simp, fun B W hB hb => hb.setCell hB _⟩
/-- a menu stored into a row, as one -/
theorem listStoreM {ops : Array Oper} {rest : List Oper} {o : Oper} {a : Act} {Q : Exit → Act → World → Prop} {w : World} (hgd : o.guard = none) (hd : o.dst = none) (x y : Operand) (ty : TypeId) (ho : o.op = .store ty x y) (hty : ty = 32)
    (g : Nat) (za : Int) (zb : Bool) (zn zd : Int) (zs : ByteArray) (hx : a.eval x = .pointer (some ⟨g, 0, none⟩)) (hy : a.eval y = .agg #[.int .i64 za, .bool zb, .int .i64 zn, .int .i64 zd, .string zs])
    {u0 u1 u2 u3 u4 : Value} (hg : w.heap[g]? = some (.cells #[u0, u1, u2, u3, u4] 32))
    (h : ∀ w' : World, PutM w w' g (.cells #[.int .i64 za, .bool zb, .int .i64 zn, .int .i64 zd, .string zs] 32) → wpList Tryz.prog ops Q rest a w') : wpList Tryz.prog ops Q (o :: rest) a w := by
  subst hty
  refine wpList_store_rowTo hgd _ x y ho hd g _ hx hy _ _ hg (by kernel_rfl) rfl (by kernel_rfl) ?_
  exact h _ (putM_row hg)
/-- an order stored into a row, as one -/
theorem listStoreO {ops : Array Oper} {rest : List Oper} {o : Oper} {a : Act} {Q : Exit → Act → World → Prop} {w : World} (hgd : o.guard = none) (hd : o.dst = none) (x y : Operand) (ty : TypeId) (ho : o.op = .store ty x y) (hty : ty = 82)
    (g : Nat) (zk zn zd zv : Int) (hx : a.eval x = .pointer (some ⟨g, 0, none⟩)) (hy : a.eval y = .agg #[.int .i64 zk, .int .i64 zn, .int .i64 zd, .int .i64 zv])
    {u0 u1 u2 u3 : Value} (hg : w.heap[g]? = some (.cells #[u0, u1, u2, u3] 82))
    (h : ∀ w' : World, PutM w w' g (.cells #[.int .i64 zk, .int .i64 zn, .int .i64 zd, .int .i64 zv] 82) → wpList Tryz.prog ops Q rest a w') : wpList Tryz.prog ops Q (o :: rest) a w := by
  subst hty
  refine wpList_store_rowTo hgd _ x y ho hd g _ hx hy _ _ hg (by kernel_rfl) rfl (by kernel_rfl) ?_
  exact h _ (putM_row hg)
/-- a menu stored into a row in a drawn region -/
theorem storeM_any {ops : Array Oper} {o : Oper} {a : Act} {K : Act → World → Prop} {Q : Exit → Act → World → Prop} {E : Prop} {w : World} (hw : Region.wanted o (yielded ops a.tmps) = true) (hd : o.dst = none) (x y : Operand) (ty : TypeId) (ho : o.op = .store ty x y) (hty : ty = 32)
    (g : Nat) (za : Int) (zb : Bool) (zn zd : Int) (zs : ByteArray) (hx : a.eval x = .pointer (some ⟨g, 0, none⟩)) (hy : a.eval y = .agg #[.int .i64 za, .bool zb, .int .i64 zn, .int .i64 zd, .string zs])
    {u0 u1 u2 u3 u4 : Value} (hg : w.heap[g]? = some (.cells #[u0, u1, u2, u3, u4] 32))
    (h : ∀ w' : World, PutM w w' g (.cells #[.int .i64 za, .bool zb, .int .i64 zn, .int .i64 zd, .string zs] 32) → K a w') : if Region.wanted o (yielded ops a.tmps) = true then Oper.wp Tryz.prog o a w K Q else E := by
  subst hty
  rw [if_pos hw]
  refine wp_store_row _ x y ho g _ hx hy _ _ hg (by kernel_rfl) rfl (by kernel_rfl) ?_
  rw [hd]
  exact h _ (putM_row hg)
theorem storeO_any {ops : Array Oper} {o : Oper} {a : Act} {K : Act → World → Prop} {Q : Exit → Act → World → Prop} {E : Prop} {w : World} (hw : Region.wanted o (yielded ops a.tmps) = true) (hd : o.dst = none) (x y : Operand) (ty : TypeId) (ho : o.op = .store ty x y) (hty : ty = 82)
    (g : Nat) (zk zn zd zv : Int) (hx : a.eval x = .pointer (some ⟨g, 0, none⟩)) (hy : a.eval y = .agg #[.int .i64 zk, .int .i64 zn, .int .i64 zd, .int .i64 zv])
    {u0 u1 u2 u3 : Value} (hg : w.heap[g]? = some (.cells #[u0, u1, u2, u3] 82))
    (h : ∀ w' : World, PutM w w' g (.cells #[.int .i64 zk, .int .i64 zn, .int .i64 zd, .int .i64 zv] 82) → K a w') : if Region.wanted o (yielded ops a.tmps) = true then Oper.wp Tryz.prog o a w K Q else E := by
  subst hty
  rw [if_pos hw]
  refine wp_store_row _ x y ho g _ hx hy _ _ hg (by kernel_rfl) rfl (by kernel_rfl) ?_
  rw [hd]
  exact h _ (putM_row hg)
theorem ky4 {w w' : World} {Y : Nat} {x0 x1 x2 x3 : Value} {T : TypeId} (h : w'.heap[Y]? = some (.cells #[x0, x1, x2, x3] T)) (hb : Below w.heap.size w w') : w'.cell? ⟨Y, 0, none⟩ = some x0 ∧ w'.cell? ⟨Y, 1, none⟩ = some x1 ∧ w'.cell? ⟨Y, 2, none⟩ = some x2 ∧ w'.cell? ⟨Y, 3, none⟩ = some x3 ∧ Below w.heap.size w w' := by
  have k := box4_cells h
  exact ⟨k.1.1, k.1.2.1, k.1.2.2.1, k.1.2.2.2, hb⟩
theorem storeV_run {w : World} {g i : Nat} {z : Int} {cs : Array Value} {T : TypeId} (hg : w.heap[g]? = some (.cells cs T)) (hi : i < cs.size) : (Instr.storeAt 3 (.pointer (some ⟨g, i, none⟩)) (.int .i64 z)).run Tryz.prog w = .ok () (w.setCell ⟨g, i, none⟩ (.int .i64 z)) := by
  have k1 : w.cell? ⟨g, i, none⟩ = some cs[i] := by simp [World.cell?, hg, hi]
  have k2 : w.frozen? ⟨g, i, none⟩ = false := by simp [World.frozen?, hg]
  simp [go_sem, Instr.storeAt, k1, k2]
theorem storeT_run {w : World} {g i : Nat} {s : ByteArray} {cs : Array Value} {T : TypeId} (hg : w.heap[g]? = some (.cells cs T)) (hi : i < cs.size) : (Instr.storeAt 9 (.pointer (some ⟨g, i, none⟩)) (.string s)).run Tryz.prog w = .ok () (w.setCell ⟨g, i, none⟩ (.string s)) := by
  have k1 : w.cell? ⟨g, i, none⟩ = some cs[i] := by simp [World.cell?, hg, hi]
  have k2 : w.frozen? ⟨g, i, none⟩ = false := by simp [World.frozen?, hg]
  simp [go_sem, Instr.storeAt, k1, k2]
/-- one number stored into a row -/
theorem listStoreI {ops : Array Oper} {rest : List Oper} {o : Oper} {a : Act} {Q : Exit → Act → World → Prop} {w : World} (hgd : o.guard = none) (hd : o.dst = none) (x y : Operand) (ty : TypeId) (ho : o.op = .store ty x y) (hty : ty = 3)
    (g i : Nat) (z : Int) (hx : a.eval x = .pointer (some ⟨g, i, none⟩)) (hy : a.eval y = .int .i64 z)
    {cs : Array Value} {T : TypeId} (hg : w.heap[g]? = some (.cells cs T)) (hi : i < cs.size)
    (h : ∀ w' : World, PutM w w' g (.cells (cs.setIfInBounds i (.int .i64 z)) T) → wpList Tryz.prog ops Q rest a w') : wpList Tryz.prog ops Q (o :: rest) a w := by
  subst hty
  refine wpList_plain hgd fun _ hK => ?_
  unfold Oper.wp
  simp only [execOp, ho, hx, hy, Sem.run_bind, storeV_run hg hi, Result.andThen, Sem.run_pure]
  exact hK _ _ (by rw [hd]; exact h _ (putM_set hg))
/-- a text stored into a row -/
theorem listStoreT {ops : Array Oper} {rest : List Oper} {o : Oper} {a : Act} {Q : Exit → Act → World → Prop} {w : World} (hgd : o.guard = none) (hd : o.dst = none) (x y : Operand) (ty : TypeId) (ho : o.op = .store ty x y) (hty : ty = 9)
    (g i : Nat) (z : ByteArray) (hx : a.eval x = .pointer (some ⟨g, i, none⟩)) (hy : a.eval y = .string z)
    {cs : Array Value} {T : TypeId} (hg : w.heap[g]? = some (.cells cs T)) (hi : i < cs.size)
    (h : ∀ w' : World, PutM w w' g (.cells (cs.setIfInBounds i (.string z)) T) → wpList Tryz.prog ops Q rest a w') : wpList Tryz.prog ops Q (o :: rest) a w := by
  subst hty
  refine wpList_plain hgd fun _ hK => ?_
  unfold Oper.wp
  simp only [execOp, ho, hx, hy, Sem.run_bind, storeT_run hg hi, Result.andThen, Sem.run_pure]
  exact hK _ _ (by rw [hd]; exact h _ (putM_set hg))
def mnV (m : Mn) : Value := .agg #[.int .i64 m.a, .bool m.b, .int .i64 m.n, .int .i64 m.d, .string ⟨m.s.toArray⟩]
theorem box3m (w : World) (o p q : Obj) :
    (((w.alloc o).alloc p).alloc q).heap[w.heap.size]? = some o ∧ (((w.alloc o).alloc p).alloc q).heap[w.heap.size + 1]? = some p ∧ (((w.alloc o).alloc p).alloc q).heap[w.heap.size + 2]? = some q ∧ Below w.heap.size w (((w.alloc o).alloc p).alloc q) ∧ (((w.alloc o).alloc p).alloc q).heap.size = w.heap.size + 3 := by
  have h0 := heap_new w o
  have h1 := heap_new (w.alloc o) p
  have h2 := heap_new ((w.alloc o).alloc p) q
  refine ⟨row_on (row_on h0 (alM _ _)) (alM _ _), row_on (by simpa using h1) (alM _ _), by simpa using h2, bel_on (Nat.le_refl _) (bel_on (Nat.le_refl _) (alM _ _) (alM _ _)) (alM _ _), by simp⟩
theorem txt_size {s : List UInt8} {S : ByteArray} (h : (⟨s.toArray⟩ : ByteArray) = S) : S.size = s.length := by subst h; rfl
theorem txt_bt {s : List UInt8} {S : ByteArray} (h : (⟨s.toArray⟩ : ByteArray) = S) (k : Nat) (hk : k < s.length) : bt S k = (s[k].toNat : Int) := by
  subst h
  rw [← get_bt (⟨s.toArray⟩ : ByteArray) k hk]
  rfl
theorem txt_one (s : List UInt8) (x : UInt8) : (⟨s.toArray⟩ : ByteArray) ++ ⟨#[x]⟩ = ⟨(s ++ [x]).toArray⟩ := by
  apply ByteArray.ext
  simp [ByteArray.data_append]
theorem txt_nil {s : List UInt8} {S : ByteArray} (h : (⟨s.toArray⟩ : ByteArray) = S) : (S.toList = []) ↔ s = [] := by
  subst h
  rw [ByteArray.toList_eq]
end Go.Proofs.YtdifmjcghaoilaaGreatDoor

namespace Go.Proofs.YtdifmjcghaoilaaGreatDoor.G
open Go.RowKit Go.PlainAid
set_option linter.unusedVariables false
set_option linter.unusedSimpArgs false

set_option maxRecDepth 100000 in
set_option maxHeartbeats 1000000 in
theorem intoI (l m n z : Int) (hz : min (max n l) m = z) (w : World) : Calls Tryz.prog 51 #[.agg #[.int .i64 l, .int .i64 m], .int .i64 n] w fun e w' => e = .returned (.int .i64 z) ∧ Below w.heap.size w w' := by
  by_cases h1 : l ≤ n
  · by_cases h2 : n ≤ m
    · obtain rfl : n = z := by omega
      clear hz
      go_enter Tryz.func51, Tryz.ntmps51
      go_wp2
      go_ret
      exact ⟨rfl, (Below.refl _ _).alloc (Nat.le_refl _) _⟩
    · obtain rfl : m = z := by omega
      clear hz
      go_enter Tryz.func51, Tryz.ntmps51
      go_wp2
      go_ret
      exact ⟨rfl, (Below.refl _ _).alloc (Nat.le_refl _) _⟩
  · by_cases h2 : l ≤ m
    · obtain rfl : l = z := by omega
      clear hz
      go_enter Tryz.func51, Tryz.ntmps51
      go_wp2
      go_ret
      exact ⟨rfl, (Below.refl _ _).alloc (Nat.le_refl _) _⟩
    · obtain rfl : m = z := by omega
      clear hz
      go_enter Tryz.func51, Tryz.ntmps51
      go_wp2
      go_ret
      exact ⟨rfl, (Below.refl _ _).alloc (Nat.le_refl _) _⟩
theorem wrap_sub (s x : Int) : IntKind.i64.wrap (IntKind.i64.wrap s - x) = IntKind.i64.wrap (s - x) := by
  rw [IntKind.wrap_i64, IntKind.wrap_i64, IntKind.wrap_i64]
  omega
theorem wrap_sub2 (s x : Int) : IntKind.i64.wrap (s - IntKind.i64.wrap x) = IntKind.i64.wrap (s - x) := by
  rw [IntKind.wrap_i64, IntKind.wrap_i64, IntKind.wrap_i64]
  omega
set_option maxRecDepth 100000 in
set_option maxHeartbeats 1000000 in
theorem roomI (a : Option Addr) (al : Int) (l : List Int) (n cap : Nat) (R : Int) (hR : IntKind.i64.wrap (30 - sumW l) = R) (hl : l.length = n) (hn : n ≤ 1048576) (w : World) (hr : Rd w a l) :
    Calls Tryz.prog 103 #[.agg #[.slice a n cap, .int .i64 al]] w fun e w' => e = .returned (.int .i64 R) ∧ Below w.heap.size w w' := by
  have HB : Hid (Below w.heap.size w (w.alloc (.cells #[.slice a n cap, .int .i64 al] 30))) := alG _ _
  have HR : Hid (Rd (w.alloc (.cells #[.slice a n cap, .int .i64 al] 30)) a l) := hr.keep HB.out (Nat.le_refl _)
  have HL : Hid (l.length = n) := hl
  have HE : Hid (IntKind.i64.wrap (30 - sumN l) = R) := by show _ = _; rw [← hR]; unfold sumW; exact (wrap_sub2 _ _).symm
  have k0 := row2_cells (heap_new w (.cells #[.slice a n cap, .int .i64 al] 30))
  clear hl hr hR
  go_enter Tryz.func103, Tryz.ntmps103
  go_wp2
  generalize w.alloc (.cells #[.slice a n cap, .int .i64 al] 30) = W at *
  go_loopg [3, 9] n (fun gk s i wr => ∃ (j : Nat) (S : Int), j + gk = n ∧ i = .int .i64 j ∧ s = .int .i64 S ∧ Hid (S = IntKind.i64.wrap (30 - sumN (l.take j))) ∧ wr = W)
  case atStart => exact ⟨0, 30, by omega, rfl, rfl, (by show _ = _; rw [List.take_zero]; exact (wrap_in (by simp [sumN]) (by simp [sumN])).symm), rfl⟩
  case round =>
    obtain ⟨j, S, hj, rfl, rfl, HS, rfl⟩ := hrel
    by_cases hlt : j < n
    · have hjl : j < l.length := by have := HL.out; omega
      obtain ⟨g, off, ha, hc⟩ := HR.out (by omega)
      subst ha
      have c1 := hc j hjl
      clear hc
      obtain ⟨x, hx⟩ : ∃ x, l[j] = x := ⟨_, rfl⟩
      rw [hx] at c1
      obtain ⟨T, hT⟩ : ∃ T, IntKind.i64.wrap (S - x) = T := ⟨_, rfl⟩
      have HT : Hid (T = IntKind.i64.wrap (30 - sumN (l.take (j + 1)))) := by
        show _ = _
        rw [← hT, HS.out, ← hx, sumN_take hjl, wrap_sub]
        congr 1
        omega
      clear hx HS
      go_wp2
      go_roundg (gk - 1)
      case measure => omega
      case rel => exact ⟨j + 1, T, by omega, by go_num, rfl, HT, rfl⟩
    · obtain rfl : j = n := by omega
      have HF : Hid (S = R) := by show _ = _; rw [HS.out, ← HE.out, ← HL.out, List.take_length]
      clear HS
      go_wp2
      go_ret
      exact ⟨by rw [HF.out]; rfl, HB.out⟩
set_option maxRecDepth 100000 in
set_option maxHeartbeats 1000000 in
theorem pulsI (a : Option Addr) (l : List Int) (n cap : Nat) (B : Bool) (hB : B = true ↔ AllG l l.length) (hl : l.length = n) (hn : n ≤ 1048576) (w : World) (hr : Rd w a l) :
    Calls Tryz.prog 102 #[.slice a n cap] w fun e w' => e = .returned (.bool B) ∧ Below w.heap.size w w' := by
  have HB : Hid (B = true ↔ AllG l l.length) := hB
  have HL : Hid (l.length = n) := hl
  have HR : Hid (Rd w a l) := hr
  clear hl hr hB
  go_enter Tryz.func102, Tryz.ntmps102
  go_wp2
  go_loopg [7] n (fun gk i wr => ∃ (j : Nat), j + gk = n ∧ i = .int .i64 j ∧ Hid (AllG l j) ∧ Hid (Below w.heap.size w wr))
  case atStart => exact ⟨0, by omega, rfl, allG_zero l, Below.refl _ _⟩
  case round =>
    obtain ⟨j, hj, rfl, HI, HW⟩ := hrel
    by_cases hlt : j < n
    · have hjl : j < l.length := by have := HL.out; omega
      obtain ⟨g, off, ha, hc⟩ := HR.out (by omega)
      subst ha
      have c1 := (HW.out.cell (p := ⟨g, off + j, none⟩) (World.block_lt_of_cell? w ⟨g, off + j, none⟩ (hc j hjl))).trans (hc j hjl)
      clear hc
      obtain ⟨x, hx⟩ : ∃ x, l[j] = x := ⟨_, rfl⟩
      rw [hx] at c1
      have HF : Hid (l[j] = x) := hx
      clear hx
      by_cases hf : 0 ≤ x ∧ x ≤ 30
      · have hd : decide ((0 : Int) ≤ x ∧ x ≤ 30) = true := decide_eq_true hf
        have HI' : Hid (AllG l (j + 1)) := allG_succ HI.out hjl (by rw [HF.out]; exact hf)
        clear hf HI
        go_wp2_with fail
        refine (H.holdsI 0 30 x true hd _).mono ?_
        rintro e w1 ⟨rfl, hb1⟩
        have HW1 : Hid (Below w.heap.size w w1) := bel_on (Nat.le_refl _) HW.out hb1
        clear hd hb1
        go_wp2
        go_roundg (gk - 1)
        case measure => omega
        case rel => exact ⟨j + 1, by omega, by go_num, HI', HW1⟩
      · have hd : decide ((0 : Int) ≤ x ∧ x ≤ 30) = false := decide_eq_false hf
        have HE : Hid (B = false) := by
          show _ = _
          cases B
          · rfl
          · exact absurd (by have := HB.out.1 rfl j hjl hjl; rw [HF.out] at this; exact this) hf
        clear hf HI
        go_wp2_with fail
        refine (H.holdsI 0 30 x false hd _).mono ?_
        rintro e w1 ⟨rfl, hb1⟩
        have HW1 : Hid (Below w.heap.size w w1) := bel_on (Nat.le_refl _) HW.out hb1
        clear hd hb1
        go_wp2
        go_ret
        exact ⟨by rw [HE.out]; rfl, HW1.out⟩
    · have HE : Hid (B = true) := HB.out.2 (fun i h _ => HI.out i h (by have := HL.out; omega))
      clear HI
      go_wp2
      go_ret
      exact ⟨by rw [HE.out]; rfl, HW.out⟩
theorem puls_bool (l : List Int) : ∃ b : Bool, b = true ↔ AllG l l.length := by
  by_cases h : AllG l l.length
  · exact ⟨true, fun _ => h, fun _ => rfl⟩
  · exact ⟨false, fun e => (by cases e), fun e => absurd e h⟩
set_option maxRecDepth 100000 in
set_option maxHeartbeats 2000000 in
theorem guardokI (a : Option Addr) (al : Int) (l : List Int) (n cap : Nat) (b : Bool) (hl : l.length = n) (hn : n ≤ 9223372036854775807) (hb : b = true ↔ GdR l al) (w : World) (hr : Rd w a l) :
    Calls Tryz.prog 65 #[.agg #[.slice a n cap, .int .i64 al]] w fun e w' => e = .returned (.bool b) ∧ Below w.heap.size w w' := by
  have HB : Hid (b = true ↔ GdR l al) := hb
  have HL : Hid (l.length = n) := hl
  obtain ⟨h1, h2, h3⟩ := box2 w (.slice a n cap) (.int .i64 al) 30
  have HX : Hid (_ = _) := h1
  have HW : Hid (Below _ _ _) := h2
  have HR : Hid (Rd _ a l) := hr.keep h2 (Nat.le_refl _)
  have k0 := row2_cells h1
  clear hb hl hr h1 h2 h3
  by_cases hal : 0 ≤ al ∧ al ≤ 15
  case neg =>
    have HE : Hid (b = false) := not_gd HB.out (fun h => hal h.2.1)
    have hd : decide ((0 : Int) ≤ al ∧ al ≤ 15) = false := decide_eq_false hal
    go_enter Tryz.func65, Tryz.ntmps65
    go_wp2_with fail
    refine (H.senseI al false hd _).mono ?_
    rintro e w1 ⟨rfl, hb1⟩
    have HW1 : Hid (Below w.heap.size w w1) := bel_on (Nat.le_refl _) HW.out hb1
    clear hb1
    go_wp2
    go_ret
    exact ⟨by rw [HE.out]; rfl, HW1.out⟩
  have HAL : Hid (0 ≤ al ∧ al ≤ 15) := hal
  have hd : decide ((0 : Int) ≤ al ∧ al ≤ 15) = true := decide_eq_true hal
  clear hal
  go_enter Tryz.func65, Tryz.ntmps65
  go_wp2_with fail
  refine (H.senseI al true hd _).mono ?_
  rintro e w1 ⟨rfl, hb1⟩
  have HX1 : Hid (w1.heap[w.heap.size]? = _) := row_on HX.out hb1
  have HW1 : Hid (Below w.heap.size w w1) := bel_on (Nat.le_refl _) HW.out hb1
  have HR1 : Hid (Rd w1 a l) := HR.out.keep hb1 (Nat.le_refl _)
  have k1 := row2_cells HX1.out
  clear hb1 hd HX HW HR k0
  by_cases h9 : n ≤ 9
  case neg =>
    have HE : Hid (b = false) := not_gd HB.out (fun h => by have := h.1; have := HL.out; omega)
    have h9' : ¬ (n : Int) ≤ 9 := by omega
    go_wp2
    go_ret
    exact ⟨by rw [HE.out]; rfl, HW1.out⟩
  have h9' : (n : Int) ≤ 9 := by omega
  obtain ⟨B, hB⟩ := puls_bool l
  have HP : Hid (B = true ↔ AllG l l.length) := hB
  clear hB
  go_wp2_with fail
  refine (pulsI a l n cap B HP.out HL.out (by omega) _ HR1.out).mono ?_
  rintro e w2 ⟨rfl, hb1⟩
  have HX2 : Hid (w2.heap[w.heap.size]? = _) := row_on HX1.out hb1
  have HW2 : Hid (Below w.heap.size w w2) := bel_on (Nat.le_refl _) HW1.out hb1
  have HR2 : Hid (Rd w2 a l) := HR1.out.keep hb1 (Nat.le_refl _)
  have k2 := row2_cells HX2.out
  clear hb1 HX1 HW1 HR1 k1
  cases B
  · have HE : Hid (b = false) := not_gd HB.out (fun h => by have := HP.out.2 (fun i hi _ => h.2.2.1 i hi); cases this)
    go_wp2
    go_ret
    exact ⟨by rw [HE.out]; rfl, HW2.out⟩
  have HS : Hid (sumW l = sumN l) := sumW_in (fun i h => HP.out.1 rfl i h h) (by have := HL.out; omega)
  have hbd := sumN_bd (l := l) (fun i h => HP.out.1 rfl i h h)
  have hlen := HL.out
  obtain ⟨R, hR⟩ : ∃ R, 30 - sumN l = R := ⟨_, rfl⟩
  have HRM : Hid (IntKind.i64.wrap (30 - sumW l) = R) := by show _ = _; rw [HS.out, hR]; exact wrap_in (by omega) (by omega)
  have HE : Hid (b = decide (0 ≤ R)) := by
    show _ = _
    have h0 : 0 ≤ R ↔ sumN l ≤ 30 := by omega
    by_cases h : 0 ≤ R
    · rw [decide_eq_true h]; exact HB.out.2 ⟨by omega, HAL.out, fun i hi => HP.out.1 rfl i hi hi, h0.1 h⟩
    · rw [decide_eq_false h]; exact not_gd HB.out (fun x => h (h0.2 x.2.2.2))
  clear hbd hlen hR
  go_wp2_with fail
  refine (roomI a al l n cap R HRM.out HL.out (by omega) _ HR2.out).mono ?_
  rintro e w3 ⟨rfl, hb1⟩
  have HW3 : Hid (Below w.heap.size w w3) := bel_on (Nat.le_refl _) HW2.out hb1
  clear hb1
  go_wp2
  go_ret
  exact ⟨by rw [HE.out]; rfl, HW3.out⟩
set_option maxRecDepth 100000 in
set_option maxHeartbeats 1000000 in
theorem inRoomI (a : Option Addr) (al : Int) (l : List Int) (n cap : Nat) (x z : Int) (hG : GdR l al) (hz : letG l x = z) (hl : l.length = n) (hn : n ≤ 1048576) (w : World) (hr : Rd w a l) :
    Calls Tryz.prog 66 #[.agg #[.slice a n cap, .int .i64 al], .int .i64 x] w fun e w' => e = .returned (.int .i64 z) ∧ Below w.heap.size w w' := by
  have HL : Hid (l.length = n) := hl
  obtain ⟨h1, h2, h3⟩ := box2 w (.slice a n cap) (.int .i64 al) 30
  have HX : Hid (_ = _) := h1
  have HW : Hid (Below _ _ _) := h2
  have HR : Hid (Rd _ a l) := hr.keep h2 (Nat.le_refl _)
  have k0 := row2_cells h1
  have hrm := room_bd hG
  obtain ⟨R, hR⟩ : ∃ R, 30 - sumN l = R := ⟨_, rfl⟩
  unfold letG at hz
  rw [hR] at hrm hz
  have HRM : Hid (IntKind.i64.wrap (30 - sumW l) = R) := hrm.1
  have HM : Hid (min (max x 0) R = z) := by show _ = _; omega
  clear hl hr h1 h2 h3 hrm hR hz hG
  go_enter Tryz.func66, Tryz.ntmps66
  go_wp2_with fail
  refine (roomI a al l n cap R HRM.out HL.out hn _ HR.out).mono ?_
  rintro e w1 ⟨rfl, hb1⟩
  have HW1 : Hid (Below w.heap.size w w1) := bel_on (Nat.le_refl _) HW.out hb1
  clear hb1
  go_wp2_with fail
  refine (intoI 0 R x z HM.out _).mono ?_
  rintro e w2 ⟨rfl, hb1⟩
  have HW2 : Hid (Below w.heap.size w w2) := bel_on (Nat.le_refl _) HW1.out hb1
  clear hb1
  go_wp2
  go_ret
  exact ⟨rfl, HW2.out⟩
set_option maxRecDepth 100000 in
set_option maxHeartbeats 2000000 in
theorem allowI (a : Option Addr) (al : Int) (l : List Int) (n cap : Nat) (x : Int) (b : Bool) (z : Int) (hl : l.length = n) (hn : n ≤ 1048576) (hb : b = true ↔ GdR l al) (hz : (if b = true ∧ al = 0 then letG l x else 0) = z) (w : World) (hr : Rd w a l) :
    Calls Tryz.prog 45 #[.agg #[.slice a n cap, .int .i64 al], .int .i64 x] w fun e w' => e = .returned (.int .i64 z) ∧ Below w.heap.size w w' := by
  have HB : Hid (b = true ↔ GdR l al) := hb
  have HL : Hid (l.length = n) := hl
  have HZ : Hid ((if b = true ∧ al = 0 then letG l x else 0) = z) := hz
  obtain ⟨h1, h2, h3⟩ := box2 w (.slice a n cap) (.int .i64 al) 30
  have HX : Hid (_ = _) := h1
  have HW : Hid (Below _ _ _) := h2
  have HR : Hid (Rd _ a l) := hr.keep h2 (Nat.le_refl _)
  have k0 := row2_cells h1
  clear hb hl hr hz h1 h2 h3
  go_enter Tryz.func45, Tryz.ntmps45
  go_wp2_with fail
  refine (guardokI a al l n cap b HL.out (by omega) HB.out _ HR.out).mono ?_
  rintro e w1 ⟨rfl, hb1⟩
  have HX1 : Hid (w1.heap[w.heap.size]? = _) := row_on HX.out hb1
  have HW1 : Hid (Below w.heap.size w w1) := bel_on (Nat.le_refl _) HW.out hb1
  have HR1 : Hid (Rd w1 a l) := HR.out.keep hb1 (Nat.le_refl _)
  have k1 := row2_cells HX1.out
  clear hb1 HX HW HR k0
  cases b
  · have HE : Hid (z = 0) := by show _ = _; rw [← HZ.out]; simp
    go_wp2
    go_ret
    exact ⟨by rw [HE.out]; rfl, HW1.out⟩
  by_cases c1 : al = 0
  case neg =>
    have HE : Hid (z = 0) := by show _ = _; rw [← HZ.out]; simp [c1]
    have q1 : (al != 0) = true := by simpa using c1
    go_wp2
    go_ret
    exact ⟨by rw [HE.out]; rfl, HW1.out⟩
  subst c1
  have HM : Hid (letG l x = z) := by have hz := HZ.out; simp only [and_self, if_true] at hz; exact hz
  have HG : Hid (GdR l 0) := HB.out.1 rfl
  clear HB HZ
  go_wp2_with fail
  refine (inRoomI a 0 l n cap x z HG.out HM.out HL.out hn _ HR1.out).mono ?_
  rintro e w2 ⟨rfl, hb2⟩
  have HW2 : Hid (Below w.heap.size w w2) := bel_on (Nat.le_refl _) HW1.out hb2
  clear hb2
  go_wp2
  go_ret
  exact ⟨rfl, HW2.out⟩
set_option maxRecDepth 100000 in
set_option maxHeartbeats 1000000 in
theorem copyGI (a : Option Addr) (al : Int) (l : List Int) (n cap : Nat) (hl : l.length = n) (hn : n ≤ 1048576) (w : World) (hr : Rd w a l) :
    Calls Tryz.prog 37 #[.agg #[.slice a n cap, .int .i64 al]] w fun e w' => e = .returned (.agg #[.slice (some ⟨w.heap.size + 2, 0, none⟩) n n, .int .i64 al]) ∧ OwnN w' (w.heap.size + 2) (w.heap.size + 2) n n l ∧ Below w.heap.size w w' := by
  obtain ⟨hA, hZ, hW, hS⟩ := box2b w (.slice a n cap) (.int .i64 al) (.slice none 0 0) (.int .i64 0) 30 30
  have HA : Hid (_ = _) := hA
  have HZ : Hid (_ = _) := hZ
  have HW : Hid (Below _ _ _) := hW
  have HS : Hid (_ = _) := hS
  have HR : Hid (Rd w a l) := hr
  have HL : Hid (l.length = n) := hl
  have ka := row2_cells hA
  clear hA hZ hW hS hr hl
  go_enter Tryz.func37, Tryz.ntmps37
  go_wp2_with fail
  refine (copyI a l n cap HL.out hn _ (HR.out.keep HW.out (Nat.le_refl _))).mono ?_
  rintro e w1 ⟨rfl, hrow, hb1⟩
  have HA1 : Hid (w1.heap[w.heap.size]? = _) := row_on HA.out hb1
  have HZ1 : Hid (w1.heap[w.heap.size + 1]? = _) := row_on HZ.out hb1
  have HW1 : Hid (Below w.heap.size w w1) := bel_on (Nat.le_refl _) HW.out hb1
  rw [HS.out] at hrow hb1 ⊢
  have HO1 : Hid (OwnN w1 (w.heap.size + 2) (w.heap.size + 2) n n l) := RowAt.ownN hrow (Nat.le_refl _) HL.out hn
  clear hrow hb1 HA HZ HW HS HR ka
  have k1 := row2_cells HA1.out
  go_wp2_with (refine listStoreL rfl rfl _ _ _ rfl rfl w.heap.size 0 (some ⟨w.heap.size + 2, 0, none⟩) n n rfl rfl HA1.out (by simp) ?_)
  intro w2 hput
  have HW2 : Hid (Below w.heap.size w w2) := hput.2.2.2 _ _ (Nat.le_refl _) HW1.out
  have HZ2 : Hid (w2.heap[w.heap.size + 1]? = some (.cells #[.slice none 0 0, .int .i64 0] 30)) := hput.far HZ1.out (by omega)
  have HO2 : Hid (OwnN w2 (w.heap.size + 2) (w.heap.size + 2) n n l) := hput.own HO1.out (by omega)
  have HA2 : Hid (w2.heap[w.heap.size]? = some (.cells #[.slice (some ⟨w.heap.size + 2, 0, none⟩) n n, .int .i64 al] 30)) := hput.1
  have k2 := row2_cells HA2.out
  clear hput HW1 HZ1 HO1 HA1 k1
  go_upto_region 2 with fail
  go_wp2_with (refine listStoreG rfl rfl _ _ _ rfl rfl (w.heap.size + 1) (some ⟨w.heap.size + 2, 0, none⟩) n n al rfl rfl HZ2.out ?_)
  intro w9 hput
  have HB9 : Hid (Below w.heap.size w w9) := hput.2.2.2 _ _ (Nat.le_succ _) HW2.out
  have HO9 : Hid (OwnN w9 (w.heap.size + 2) (w.heap.size + 2) n n l) := hput.own HO2.out (by omega)
  obtain ⟨z0, z1, _⟩ := row2_cells hput.1
  clear hput
  go_wp2
  refine bodyPost_ret (v := .agg #[.slice (some ⟨w.heap.size + 2, 0, none⟩) n n, .int .i64 al]) (by simp only [results, Tryz.results37]; simp [go_sem, z0, z1]) rfl ⟨rfl, HO9.out, HB9.out⟩
theorem or_fin : ∀ a b : Fin 16, IntKind.i64.wrap ((BitVec.ofInt 64 (a.val : Int) ||| BitVec.ofInt 64 (b.val : Int)).toNat : Int) = orI (a.val : Int) (b.val : Int) := by decide
theorem or_is {a b : Int} (ha : 0 ≤ a ∧ a ≤ 15) (hb : 0 ≤ b ∧ b ≤ 15) : IntKind.i64.wrap ((BitVec.ofInt 64 a ||| BitVec.ofInt 64 b).toNat : Int) = orI a b := by
  have h := or_fin ⟨a.toNat, by omega⟩ ⟨b.toNat, by omega⟩
  simp only [Int.toNat_of_nonneg ha.1, Int.toNat_of_nonneg hb.1] at h
  exact h
set_option maxRecDepth 100000 in
set_option maxHeartbeats 4000000 in
theorem feelI (a : Option Addr) (al : Int) (l : List Int) (n cap : Nat) (x : Int) (seen : Bool) (b : Bool) (y : Int) (hy : feelA b al x seen = y) (hl : l.length = n) (hn : n ≤ 1048576) (ha : a = none → n = 0 ∧ cap = 0) (hb : b = true ↔ GdR l al) (w : World) (hr : Rd w a l) :
    Calls Tryz.prog 44 #[.agg #[.slice a n cap, .int .i64 al], .int .i64 x, .bool seen] w fun e w' => ∃ g c, e = .returned (.agg #[.slice (some ⟨g, 0, none⟩) n c, .int .i64 y]) ∧ OwnN w' w.heap.size g n c l ∧ Below w.heap.size w w' := by
  have HY : Hid (feelA b al x seen = y) := hy
  clear hy
  have HL : Hid (l.length = n) := hl
  have HR : Hid (Rd w a l) := hr
  have HBo : Hid (b = true ↔ GdR l al) := hb
  obtain ⟨h1, h2, h3, h4⟩ := box2b w (.slice a n cap) (.int .i64 al) (.slice none 0 0) (.int .i64 0) 30 30
  have HP0 : Hid (_ = _) := h1
  have HZ0 : Hid (_ = _) := h2
  have HB0 : Hid (Below _ _ _) := h3
  have HS0 : Hid (_ = _) := h4
  have p0 := row2_cells HP0.out
  clear hl hr ha hb h1 h2 h3 h4
  go_enter Tryz.func44, Tryz.ntmps44
  go_wp2_with fail
  refine (copyGI a al l n cap HL.out hn _ (HR.out.keep HB0.out (Nat.le_refl _))).mono ?_
  rintro e w1 ⟨rfl, hown, hb1⟩
  have HB1 : Hid (Below w.heap.size w w1) := bel_on (Nat.le_refl _) HB0.out hb1
  have HP1 : Hid (w1.heap[w.heap.size]? = some (.cells #[.slice a n cap, .int .i64 al] 30)) := row_on HP0.out hb1
  have HZ1 : Hid (w1.heap[w.heap.size + 1]? = some (.cells #[.slice none 0 0, .int .i64 0] 30)) := row_on HZ0.out hb1
  rw [HS0.out] at hown ⊢
  obtain ⟨g, hg⟩ : ∃ g, w.heap.size + 2 + 2 = g := ⟨_, rfl⟩
  rw [hg] at hown ⊢
  have HO1 : Hid (OwnN w1 (w.heap.size + 2) g n n l) := hown.mono (by omega)
  have hg1 := HO1.out.ge
  have hg2 := HO1.out.lt
  clear hown hb1 HB0 HP0 HZ0 HS0 p0 hg
  have HQ2 : Hid ((w1.alloc (.cells #[.slice (some ⟨g, 0, none⟩) n n, .int .i64 al] 30)).heap[w1.heap.size]? = some (.cells #[.slice (some ⟨g, 0, none⟩) n n, .int .i64 al] 30)) := heap_new w1 _
  have HB2 : Hid (Below w.heap.size w (w1.alloc (.cells #[.slice (some ⟨g, 0, none⟩) n n, .int .i64 al] 30))) := bel_on (Nat.le_refl _) HB1.out (alG _ _)
  have HP2 : Hid ((w1.alloc (.cells #[.slice (some ⟨g, 0, none⟩) n n, .int .i64 al] 30)).heap[w.heap.size]? = some (.cells #[.slice a n cap, .int .i64 al] 30)) := row_on HP1.out (alG _ _)
  have HZ2 : Hid ((w1.alloc (.cells #[.slice (some ⟨g, 0, none⟩) n n, .int .i64 al] 30)).heap[w.heap.size + 1]? = some (.cells #[.slice none 0 0, .int .i64 0] 30)) := row_on HZ1.out (alG _ _)
  have HO2 : Hid (OwnN (w1.alloc (.cells #[.slice (some ⟨g, 0, none⟩) n n, .int .i64 al] 30)) (w.heap.size + 2) g n n l) := HO1.out.on (alG _ _)
  have p2 := row2_cells HP2.out
  have q2 := row2_cells HQ2.out
  have hl1 := row_lt HZ1.out
  clear HB1 HP1 HZ1 HO1
  obtain ⟨Q, hQ⟩ : ∃ Q, w1.heap.size = Q := ⟨_, rfl⟩
  go_wp2_with fail
  refine (guardokI a al l n cap b HL.out (by omega) HBo.out _ (HR.out.keep HB2.out (Nat.le_refl _))).mono ?_
  rintro e w3 ⟨rfl, hb1⟩
  rw [hQ] at HQ2 hl1 hg2
  have HB3 : Hid (Below w.heap.size w w3) := bel_on (Nat.le_refl _) HB2.out hb1
  have HP3 : Hid (w3.heap[w.heap.size]? = some (.cells #[.slice a n cap, .int .i64 al] 30)) := row_on HP2.out hb1
  have HZ3 : Hid (w3.heap[w.heap.size + 1]? = some (.cells #[.slice none 0 0, .int .i64 0] 30)) := row_on HZ2.out hb1
  have HO3 : Hid (OwnN w3 (w.heap.size + 2) g n n l) := HO2.out.on hb1
  have HQ3 : Hid (w3.heap[Q]? = some (.cells #[.slice (some ⟨g, 0, none⟩) n n, .int .i64 al] 30)) := row_on HQ2.out hb1
  have p3 := row2_cells HP3.out
  have q3 := row2_cells HQ3.out
  clear hb1 HB2 HP2 HZ2 HO2 HQ2 p2 q2 hQ
  cases b
  · obtain rfl : al = y := by rw [← HY.out]; simp [feelA]
    clear HY
    go_upto_region 3 with fail
    go_wp2_with (refine listStoreG rfl rfl _ _ _ rfl rfl (w.heap.size + 1) (some ⟨g, 0, none⟩) n n (al) rfl rfl HZ3.out ?_)
    intro w9 hput
    have HB9 : Hid (Below w.heap.size w w9) := hput.2.2.2 _ _ (Nat.le_succ _) HB3.out
    have HO9 : Hid (OwnN w9 w.heap.size g n n l) := hput.own (HO3.out.mono (by omega)) (by omega)
    obtain ⟨z0, z1, _⟩ := row2_cells hput.1
    clear hput
    go_wp2
    refine bodyPost_ret (v := .agg #[.slice (some ⟨g, 0, none⟩) n n, .int .i64 (al)]) (by simp only [results, Tryz.results44]; simp [go_sem, z0, z1]) rfl ⟨g, n, rfl, HO9.out, HB9.out⟩
  by_cases hx : 0 ≤ x ∧ x ≤ 15
  case neg =>
    obtain rfl : al = y := by rw [← HY.out]; simp only [feelA]; rw [if_neg (fun h => hx h.2)]
    have hd := decide_eq_false hx
    clear HY hx
    go_wp2_with fail
    refine (H.senseI x false hd _).mono ?_
    rintro e w4 ⟨rfl, hb1⟩
    have HB4 : Hid (Below w.heap.size w w4) := bel_on (Nat.le_refl _) HB3.out hb1
    have HP4 : Hid (w4.heap[w.heap.size]? = some (.cells #[.slice a n cap, .int .i64 al] 30)) := row_on HP3.out hb1
    have HZ4 : Hid (w4.heap[w.heap.size + 1]? = some (.cells #[.slice none 0 0, .int .i64 0] 30)) := row_on HZ3.out hb1
    have HO4 : Hid (OwnN w4 (w.heap.size + 2) g n n l) := HO3.out.on hb1
    have HQ4 : Hid (w4.heap[Q]? = some (.cells #[.slice (some ⟨g, 0, none⟩) n n, .int .i64 al] 30)) := row_on HQ3.out hb1
    have p4 := row2_cells HP4.out
    have q4 := row2_cells HQ4.out
    clear hb1 HB3 HP3 HZ3 HO3 HQ3 p3 q3
    go_upto_region 3 with fail
    go_wp2_with (refine listStoreG rfl rfl _ _ _ rfl rfl (w.heap.size + 1) (some ⟨g, 0, none⟩) n n (al) rfl rfl HZ4.out ?_)
    intro w9 hput
    have HB9 : Hid (Below w.heap.size w w9) := hput.2.2.2 _ _ (Nat.le_succ _) HB4.out
    have HO9 : Hid (OwnN w9 w.heap.size g n n l) := hput.own (HO4.out.mono (by omega)) (by omega)
    obtain ⟨z0, z1, _⟩ := row2_cells hput.1
    clear hput
    go_wp2
    refine bodyPost_ret (v := .agg #[.slice (some ⟨g, 0, none⟩) n n, .int .i64 (al)]) (by simp only [results, Tryz.results44]; simp [go_sem, z0, z1]) rfl ⟨g, n, rfl, HO9.out, HB9.out⟩
  have hd := decide_eq_true hx
  have hy := HY.out
  unfold feelA at hy
  rw [if_pos ⟨rfl, hx⟩] at hy
  obtain ⟨u, hu⟩ : ∃ u, orI al x = u := ⟨_, rfl⟩
  rw [hu] at hy
  have hor := or_is (HBo.out.1 rfl).2.1 hx
  rw [hu] at hor
  have HOR : Hid (IntKind.i64.wrap ((BitVec.ofInt 64 al ||| BitVec.ofInt 64 x).toNat : Int) = u) := hor
  clear HY hx hu hor
  go_wp2_with fail
  refine (H.senseI x true hd _).mono ?_
  rintro e w4 ⟨rfl, hb1⟩
  have HB4 : Hid (Below w.heap.size w w4) := bel_on (Nat.le_refl _) HB3.out hb1
  have HP4 : Hid (w4.heap[w.heap.size]? = some (.cells #[.slice a n cap, .int .i64 al] 30)) := row_on HP3.out hb1
  have HZ4 : Hid (w4.heap[w.heap.size + 1]? = some (.cells #[.slice none 0 0, .int .i64 0] 30)) := row_on HZ3.out hb1
  have HO4 : Hid (OwnN w4 (w.heap.size + 2) g n n l) := HO3.out.on hb1
  have HQ4 : Hid (w4.heap[Q]? = some (.cells #[.slice (some ⟨g, 0, none⟩) n n, .int .i64 al] 30)) := row_on HQ3.out hb1
  have p4 := row2_cells HP4.out
  have q4 := row2_cells HQ4.out
  clear hb1 HB3 HP3 HZ3 HO3 HQ3 p3 q3 hd
  cases seen
  · simp at hy
    subst hy
    have hor := HOR.out
    go_upto_region 6 with fail
    go_wp2_with (refine listStoreI rfl rfl _ _ _ rfl rfl Q 1 (u) rfl (by first | rfl | (simp only [Act.eval]; rw [← hor]; rfl)) HQ4.out (by simp) ?_)
    clear hor
    intro w5 hput
    have HB5 : Hid (Below w.heap.size w w5) := hput.2.2.2 _ _ (by omega) HB4.out
    have HZ5 : Hid (w5.heap[w.heap.size + 1]? = some (.cells #[.slice none 0 0, .int .i64 0] 30)) := hput.far HZ4.out (by omega)
    have HO5 : Hid (OwnN w5 (w.heap.size + 2) g n n l) := hput.own HO4.out (by omega)
    have HQ5 : Hid (w5.heap[Q]? = some (.cells #[.slice (some ⟨g, 0, none⟩) n n, .int .i64 u] 30)) := hput.1
    have q5 := row2_cells HQ5.out
    clear hput HB4 HP4 HZ4 HO4 HQ4 p4 q4
    go_upto_region 7 with fail
    go_wp2_with (refine listStoreG rfl rfl _ _ _ rfl rfl (w.heap.size + 1) (some ⟨g, 0, none⟩) n n (u) rfl rfl HZ5.out ?_)
    intro w9 hput
    have HB9 : Hid (Below w.heap.size w w9) := hput.2.2.2 _ _ (Nat.le_succ _) HB5.out
    have HO9 : Hid (OwnN w9 w.heap.size g n n l) := hput.own (HO5.out.mono (by omega)) (by omega)
    obtain ⟨z0, z1, _⟩ := row2_cells hput.1
    clear hput
    go_wp2
    refine bodyPost_ret (v := .agg #[.slice (some ⟨g, 0, none⟩) n n, .int .i64 (u)]) (by simp only [results, Tryz.results44]; simp [go_sem, z0, z1]) rfl ⟨g, n, rfl, HO9.out, HB9.out⟩
  · simp at hy
    subst hy
    go_upto_region 5 with fail
    go_wp2_with (refine listStoreI rfl rfl _ _ _ rfl rfl Q 1 (x) rfl rfl HQ4.out (by simp) ?_)
    intro w5 hput
    have HB5 : Hid (Below w.heap.size w w5) := hput.2.2.2 _ _ (by omega) HB4.out
    have HZ5 : Hid (w5.heap[w.heap.size + 1]? = some (.cells #[.slice none 0 0, .int .i64 0] 30)) := hput.far HZ4.out (by omega)
    have HO5 : Hid (OwnN w5 (w.heap.size + 2) g n n l) := hput.own HO4.out (by omega)
    have HQ5 : Hid (w5.heap[Q]? = some (.cells #[.slice (some ⟨g, 0, none⟩) n n, .int .i64 x] 30)) := hput.1
    have q5 := row2_cells HQ5.out
    clear hput HB4 HP4 HZ4 HO4 HQ4 p4 q4
    go_upto_region 7 with fail
    go_wp2_with (refine listStoreG rfl rfl _ _ _ rfl rfl (w.heap.size + 1) (some ⟨g, 0, none⟩) n n (x) rfl rfl HZ5.out ?_)
    intro w9 hput
    have HB9 : Hid (Below w.heap.size w w9) := hput.2.2.2 _ _ (Nat.le_succ _) HB5.out
    have HO9 : Hid (OwnN w9 w.heap.size g n n l) := hput.own (HO5.out.mono (by omega)) (by omega)
    obtain ⟨z0, z1, _⟩ := row2_cells hput.1
    clear hput
    go_wp2
    refine bodyPost_ret (v := .agg #[.slice (some ⟨g, 0, none⟩) n n, .int .i64 (x)]) (by simp only [results, Tryz.results44]; simp [go_sem, z0, z1]) rfl ⟨g, n, rfl, HO9.out, HB9.out⟩
end Go.Proofs.YtdifmjcghaoilaaGreatDoor.G

namespace Go.Proofs.YtdifmjcghaoilaaGreatDoor.G
open Go.RowKit Go.PlainAid
set_option linter.unusedVariables false
set_option linter.unusedSimpArgs false

def putA (A : Nat → Int) (k : Nat) (v : Int) : Nat → Int := fun i => if i = k then v else A i
def Ring (l : List Int) (A : Nat → Int) (N M : Nat) : Prop := N < 9 ∧ l.length = M ∧ M ≤ 9 ∧ ∀ i (h : i < l.length), A ((N + 9 - (i + 1)) % 9) = l[i]
theorem ring_nil : Ring [] (fun _ => 0) 0 0 := ⟨by omega, rfl, by omega, fun i h => by simp at h⟩
theorem ring_put {l : List Int} {A : Nat → Int} {N M : Nat} (h : Ring l A N M) (v : Int) : Ring ((v :: l).take 9) (putA A N v) ((N + 1) % 9) (min (M + 1) 9) := by
  obtain ⟨h1, h2, h3, h4⟩ := h
  refine ⟨by omega, by simp; omega, by omega, fun i hi => ?_⟩
  have hi9 : i < 9 := by simp at hi; omega
  have hil : i < l.length + 1 := by simp at hi; omega
  rw [List.getElem_take]
  unfold putA
  cases i with
  | zero => rw [if_pos (by omega)]; rfl
  | succ i =>
    rw [if_neg (by omega), List.getElem_cons_succ, ← h4 i (by omega)]
    congr 1
    omega
theorem row11_cells {w : World} {k : Nat} {t : TypeId} {u0 u1 u2 u3 u4 u5 u6 u7 u8 u9 u10 : Value} (h : w.heap[k]? = some (.cells #[u0, u1, u2, u3, u4, u5, u6, u7, u8, u9, u10] t)) :
    w.cell? ⟨k, 0, none⟩ = some u0 ∧ w.cell? ⟨k, 1, none⟩ = some u1 ∧ w.cell? ⟨k, 2, none⟩ = some u2 ∧ w.cell? ⟨k, 3, none⟩ = some u3 ∧ w.cell? ⟨k, 4, none⟩ = some u4 ∧ w.cell? ⟨k, 5, none⟩ = some u5 ∧ w.cell? ⟨k, 6, none⟩ = some u6 ∧ w.cell? ⟨k, 7, none⟩ = some u7 ∧ w.cell? ⟨k, 8, none⟩ = some u8 ∧ w.cell? ⟨k, 9, none⟩ = some u9 ∧ w.cell? ⟨k, 10, none⟩ = some u10 ∧ w.frozen? ⟨k, 0, none⟩ = false ∧ w.frozen? ⟨k, 1, none⟩ = false ∧ w.frozen? ⟨k, 2, none⟩ = false ∧ w.frozen? ⟨k, 3, none⟩ = false ∧ w.frozen? ⟨k, 4, none⟩ = false ∧ w.frozen? ⟨k, 5, none⟩ = false ∧ w.frozen? ⟨k, 6, none⟩ = false ∧ w.frozen? ⟨k, 7, none⟩ = false ∧ w.frozen? ⟨k, 8, none⟩ = false ∧ w.frozen? ⟨k, 9, none⟩ = false ∧ w.frozen? ⟨k, 10, none⟩ = false := by
  refine ⟨?_, ?_, ?_, ?_, ?_, ?_, ?_, ?_, ?_, ?_, ?_, ?_, ?_, ?_, ?_, ?_, ?_, ?_, ?_, ?_, ?_, ?_⟩ <;> simp [World.cell?, World.frozen?, h]
/-- eleven numbers stored into a row, as one -/
theorem listStoreT {ops : Array Oper} {rest : List Oper} {o : Oper} {a : Act} {Q : Exit → Act → World → Prop} {w : World} (hgd : o.guard = none) (hd : o.dst = none) (x y : Operand) (ty : TypeId) (ho : o.op = .store ty x y) (hty : ty = 128)
    (g : Nat) (z0 z1 z2 z3 z4 z5 z6 z7 z8 z9 z10 : Int) (hx : a.eval x = .pointer (some ⟨g, 0, none⟩)) (hy : a.eval y = .agg #[.int .i64 z0, .int .i64 z1, .int .i64 z2, .int .i64 z3, .int .i64 z4, .int .i64 z5, .int .i64 z6, .int .i64 z7, .int .i64 z8, .int .i64 z9, .int .i64 z10])
    {u0 u1 u2 u3 u4 u5 u6 u7 u8 u9 u10 : Value} (hg : w.heap[g]? = some (.cells #[u0, u1, u2, u3, u4, u5, u6, u7, u8, u9, u10] 128))
    (h : ∀ w' : World, PutG w w' g (.cells #[.int .i64 z0, .int .i64 z1, .int .i64 z2, .int .i64 z3, .int .i64 z4, .int .i64 z5, .int .i64 z6, .int .i64 z7, .int .i64 z8, .int .i64 z9, .int .i64 z10] 128) → wpList Tryz.prog ops Q rest a w') : wpList Tryz.prog ops Q (o :: rest) a w := by
  subst hty
  refine wpList_store_rowTo hgd _ x y ho hd g _ hx hy _ _ hg (by kernel_rfl) rfl (by kernel_rfl) ?_
  refine h _ ⟨setRow_heap w g _ _ _ _ hg, fun k hk => setRow_other w g k _ hk, setRow_size w g _, fun B W hB hb => ?_⟩
  exact ⟨hb.os, hb.tape, hb.output, by rw [setRow_size]; exact hb.size, fun k hk => by rw [setRow_other w g k _ (by omega)]; exact hb.block k hk⟩
theorem row_put (A : Nat → Int) (N M : Int) (k : Nat) (hk : k < 9) (v : Int) : (#[.int .i64 (A 0), .int .i64 (A 1), .int .i64 (A 2), .int .i64 (A 3), .int .i64 (A 4), .int .i64 (A 5), .int .i64 (A 6), .int .i64 (A 7), .int .i64 (A 8), .int .i64 N, .int .i64 M] : Array Value).setIfInBounds k (.int .i64 v) = #[.int .i64 ((putA A k v) 0), .int .i64 ((putA A k v) 1), .int .i64 ((putA A k v) 2), .int .i64 ((putA A k v) 3), .int .i64 ((putA A k v) 4), .int .i64 ((putA A k v) 5), .int .i64 ((putA A k v) 6), .int .i64 ((putA A k v) 7), .int .i64 ((putA A k v) 8), .int .i64 N, .int .i64 M] := by
  have : k = 0 ∨ k = 1 ∨ k = 2 ∨ k = 3 ∨ k = 4 ∨ k = 5 ∨ k = 6 ∨ k = 7 ∨ k = 8 := by omega
  rcases this with rfl | rfl | rfl | rfl | rfl | rfl | rfl | rfl | rfl <;> rfl
theorem row_at {w : World} {g : Nat} {A : Nat → Int} {N M : Int} {t : TypeId} (h : w.heap[g]? = some (.cells #[.int .i64 (A 0), .int .i64 (A 1), .int .i64 (A 2), .int .i64 (A 3), .int .i64 (A 4), .int .i64 (A 5), .int .i64 (A 6), .int .i64 (A 7), .int .i64 (A 8), .int .i64 N, .int .i64 M] t)) (k : Nat) (hk : k < 9) : w.cell? ⟨g, k, none⟩ = some (.int .i64 (A k)) := by
  have : k = 0 ∨ k = 1 ∨ k = 2 ∨ k = 3 ∨ k = 4 ∨ k = 5 ∨ k = 6 ∨ k = 7 ∨ k = 8 := by omega
  rcases this with rfl | rfl | rfl | rfl | rfl | rfl | rfl | rfl | rfl <;> simp [World.cell?, h]
theorem box11b (w : World) (o p : Obj) :
    ((w.alloc o).alloc p).heap[w.heap.size]? = some o ∧ ((w.alloc o).alloc p).heap[w.heap.size + 1]? = some p ∧ Below w.heap.size w ((w.alloc o).alloc p) ∧ ((w.alloc o).alloc p).heap.size = w.heap.size + 2 := by
  have h0 := heap_new w o
  have h1 := heap_new (w.alloc o) p
  refine ⟨(Below.heap_alloc _ _ _ (by simp)).trans h0, by simpa using h1, ((Below.refl _ _).alloc (Nat.le_refl _) _).alloc (by simp) _, by simp⟩
set_option maxRecDepth 100000 in
set_option maxHeartbeats 2000000 in
theorem withI (A : Nat → Int) (N M : Nat) (v : Int) (hN : N < 9) (hM : M ≤ 9) (w : World) :
    Calls Tryz.prog 78 #[.agg #[.int .i64 (A 0), .int .i64 (A 1), .int .i64 (A 2), .int .i64 (A 3), .int .i64 (A 4), .int .i64 (A 5), .int .i64 (A 6), .int .i64 (A 7), .int .i64 (A 8), .int .i64 (N : Int), .int .i64 (M : Int)], .int .i64 v] w fun e w' => e = .returned (.agg #[.int .i64 ((putA A N v) 0), .int .i64 ((putA A N v) 1), .int .i64 ((putA A N v) 2), .int .i64 ((putA A N v) 3), .int .i64 ((putA A N v) 4), .int .i64 ((putA A N v) 5), .int .i64 ((putA A N v) 6), .int .i64 ((putA A N v) 7), .int .i64 ((putA A N v) 8), .int .i64 (((N + 1) % 9 : Nat) : Int), .int .i64 ((min (M + 1) 9 : Nat) : Int)]) ∧ Below w.heap.size w w' := by
  obtain ⟨h1, h2, h3, h4⟩ := box11b w (.cells #[.int .i64 (A 0), .int .i64 (A 1), .int .i64 (A 2), .int .i64 (A 3), .int .i64 (A 4), .int .i64 (A 5), .int .i64 (A 6), .int .i64 (A 7), .int .i64 (A 8), .int .i64 (N : Int), .int .i64 (M : Int)] 128) (.cells #[.int .i64 0, .int .i64 0, .int .i64 0, .int .i64 0, .int .i64 0, .int .i64 0, .int .i64 0, .int .i64 0, .int .i64 0, .int .i64 0, .int .i64 0] 128)
  have HP0 : Hid (_ = _) := h1
  have HZ0 : Hid (_ = _) := h2
  have HB0 : Hid (Below _ _ _) := h3
  have p0 := row11_cells h1
  clear h1 h2 h3 h4
  have n0 : (0 : Int) ≤ N := by omega
  have n9 : (N : Int) < 9 := by omega
  obtain ⟨A', hA'⟩ : ∃ A', putA A N v = A' := ⟨_, rfl⟩
  obtain ⟨N', hN'⟩ : ∃ N', (N + 1) % 9 = N' := ⟨_, rfl⟩
  obtain ⟨M', hM'⟩ : ∃ M', min (M + 1) 9 = M' := ⟨_, rfl⟩
  rw [hA', hN', hM']
  have q1 : IntKind.i64.wrap ((N : Int) + 1) = (N : Int) + 1 := wrap_in (by omega) (by omega)
  have q2 : ((N : Int) + 1).tmod 9 = (N' : Int) := by rw [Int.tmod_eq_emod_of_nonneg (by omega)]; omega
  have q3 : IntKind.i64.wrap ((M : Int) + 1) = (M : Int) + 1 := wrap_in (by omega) (by omega)
  go_enter Tryz.func78, Tryz.ntmps78
  go_upto_region 1 with fail
  go_wp2_with (refine listStoreI rfl rfl _ _ _ rfl rfl w.heap.size N v rfl rfl HP0.out (by simp; omega) ?_)
  intro w1 hput
  have HB1 : Hid (Below w.heap.size w w1) := hput.2.2.2 _ _ (Nat.le_refl _) HB0.out
  have HZ1 : Hid (w1.heap[w.heap.size + 1]? = some (.cells #[.int .i64 0, .int .i64 0, .int .i64 0, .int .i64 0, .int .i64 0, .int .i64 0, .int .i64 0, .int .i64 0, .int .i64 0, .int .i64 0, .int .i64 0] 128)) := hput.far HZ0.out (by omega)
  have HP1 : Hid (w1.heap[w.heap.size]? = some (.cells #[.int .i64 (A' 0), .int .i64 (A' 1), .int .i64 (A' 2), .int .i64 (A' 3), .int .i64 (A' 4), .int .i64 (A' 5), .int .i64 (A' 6), .int .i64 (A' 7), .int .i64 (A' 8), .int .i64 (N : Int), .int .i64 (M : Int)] 128)) := by have h := hput.1; rw [row_put A N M N hN v, hA'] at h; exact h
  have p1 := row11_cells HP1.out
  clear hput HB0 HZ0 HP0 p0
  go_upto_region 2 with fail
  go_wp2_with (refine listStoreI rfl rfl _ _ _ rfl rfl w.heap.size 9 N' rfl rfl HP1.out (by simp) ?_)
  intro w2 hput
  have HB2 : Hid (Below w.heap.size w w2) := hput.2.2.2 _ _ (Nat.le_refl _) HB1.out
  have HZ2 : Hid (w2.heap[w.heap.size + 1]? = some (.cells #[.int .i64 0, .int .i64 0, .int .i64 0, .int .i64 0, .int .i64 0, .int .i64 0, .int .i64 0, .int .i64 0, .int .i64 0, .int .i64 0, .int .i64 0] 128)) := hput.far HZ1.out (by omega)
  have HP2 : Hid (w2.heap[w.heap.size]? = some (.cells #[.int .i64 (A' 0), .int .i64 (A' 1), .int .i64 (A' 2), .int .i64 (A' 3), .int .i64 (A' 4), .int .i64 (A' 5), .int .i64 (A' 6), .int .i64 (A' 7), .int .i64 (A' 8), .int .i64 (N' : Int), .int .i64 (M : Int)] 128)) := hput.1
  have p2 := row11_cells HP2.out
  clear hput HB1 HZ1 HP1 p1
  go_upto_region 3 with fail
  by_cases h9 : M < 9
  · obtain rfl : M + 1 = M' := by omega
    have h9' : (M : Int) + 1 ≤ 9 := by omega
    have h9'' : ¬ (9 : Int) < (M : Int) + 1 := by omega
    go_wp2_with (refine listStoreI rfl rfl _ _ _ rfl rfl w.heap.size 10 ((M : Int) + 1) rfl rfl HP2.out (by simp) ?_)
    intro w3 hput
    have HB3 : Hid (Below w.heap.size w w3) := hput.2.2.2 _ _ (Nat.le_refl _) HB2.out
    have HZ3 : Hid (w3.heap[w.heap.size + 1]? = some (.cells #[.int .i64 0, .int .i64 0, .int .i64 0, .int .i64 0, .int .i64 0, .int .i64 0, .int .i64 0, .int .i64 0, .int .i64 0, .int .i64 0, .int .i64 0] 128)) := hput.far HZ2.out (by omega)
    have HP3 : Hid (w3.heap[w.heap.size]? = some (.cells #[.int .i64 (A' 0), .int .i64 (A' 1), .int .i64 (A' 2), .int .i64 (A' 3), .int .i64 (A' 4), .int .i64 (A' 5), .int .i64 (A' 6), .int .i64 (A' 7), .int .i64 (A' 8), .int .i64 N', .int .i64 ((M : Int) + 1)] 128)) := hput.1
    have p3 := row11_cells HP3.out
    clear hput HB2 HZ2 HP2 p2
    go_upto_region 4 with fail
    go_wp2_with (refine listStoreT rfl rfl _ _ _ rfl rfl (w.heap.size + 1) (A' 0) (A' 1) (A' 2) (A' 3) (A' 4) (A' 5) (A' 6) (A' 7) (A' 8) N' ((M : Int) + 1) rfl rfl HZ3.out ?_)
    intro w4 hput
    have HB4 : Hid (Below w.heap.size w w4) := hput.2.2.2 _ _ (Nat.le_succ _) HB3.out
    have z := row11_cells hput.1
    clear hput
    go_wp2
    refine bodyPost_ret (v := .agg #[.int .i64 (A' 0), .int .i64 (A' 1), .int .i64 (A' 2), .int .i64 (A' 3), .int .i64 (A' 4), .int .i64 (A' 5), .int .i64 (A' 6), .int .i64 (A' 7), .int .i64 (A' 8), .int .i64 N', .int .i64 ((M : Int) + 1)]) (by simp only [results, Tryz.results78]; simp [go_sem, z]) rfl ⟨rfl, HB4.out⟩
  · obtain rfl : M = 9 := by omega
    obtain rfl : 9 = M' := by omega
    go_wp2_with (refine listStoreI rfl rfl _ _ _ rfl rfl w.heap.size 10 9 rfl rfl HP2.out (by simp) ?_)
    intro w3 hput
    have HB3 : Hid (Below w.heap.size w w3) := hput.2.2.2 _ _ (Nat.le_refl _) HB2.out
    have HZ3 : Hid (w3.heap[w.heap.size + 1]? = some (.cells #[.int .i64 0, .int .i64 0, .int .i64 0, .int .i64 0, .int .i64 0, .int .i64 0, .int .i64 0, .int .i64 0, .int .i64 0, .int .i64 0, .int .i64 0] 128)) := hput.far HZ2.out (by omega)
    have HP3 : Hid (w3.heap[w.heap.size]? = some (.cells #[.int .i64 (A' 0), .int .i64 (A' 1), .int .i64 (A' 2), .int .i64 (A' 3), .int .i64 (A' 4), .int .i64 (A' 5), .int .i64 (A' 6), .int .i64 (A' 7), .int .i64 (A' 8), .int .i64 N', .int .i64 9] 128)) := hput.1
    have p3 := row11_cells HP3.out
    clear hput HB2 HZ2 HP2 p2
    go_upto_region 4 with fail
    go_wp2_with (refine listStoreT rfl rfl _ _ _ rfl rfl (w.heap.size + 1) (A' 0) (A' 1) (A' 2) (A' 3) (A' 4) (A' 5) (A' 6) (A' 7) (A' 8) N' 9 rfl rfl HZ3.out ?_)
    intro w4 hput
    have HB4 : Hid (Below w.heap.size w w4) := hput.2.2.2 _ _ (Nat.le_succ _) HB3.out
    have z := row11_cells hput.1
    clear hput
    go_wp2
    refine bodyPost_ret (v := .agg #[.int .i64 (A' 0), .int .i64 (A' 1), .int .i64 (A' 2), .int .i64 (A' 3), .int .i64 (A' 4), .int .i64 (A' 5), .int .i64 (A' 6), .int .i64 (A' 7), .int .i64 (A' 8), .int .i64 N', .int .i64 9]) (by simp only [results, Tryz.results78]; simp [go_sem, z]) rfl ⟨rfl, HB4.out⟩
end Go.Proofs.YtdifmjcghaoilaaGreatDoor.G

namespace Go.Proofs.YtdifmjcghaoilaaGreatDoor.G
open Go.RowKit Go.PlainAid
set_option linter.unusedVariables false
set_option linter.unusedSimpArgs false

set_option maxRecDepth 100000 in
set_option maxHeartbeats 1000000 in
theorem agoI (A : Nat → Int) (N M t : Nat) (x : Int) (hN : N < 9) (ht : 1 ≤ t ∧ t ≤ 9) (hx : A ((N + 9 - t) % 9) = x) (w : World) :
    Calls Tryz.prog 110 #[.agg #[.int .i64 (A 0), .int .i64 (A 1), .int .i64 (A 2), .int .i64 (A 3), .int .i64 (A 4), .int .i64 (A 5), .int .i64 (A 6), .int .i64 (A 7), .int .i64 (A 8), .int .i64 (N : Int), .int .i64 (M : Int)], .int .i64 t] w fun e w' => e = .returned (.int .i64 x) ∧ Below w.heap.size w w' := by
  have HP : Hid ((w.alloc (.cells #[.int .i64 (A 0), .int .i64 (A 1), .int .i64 (A 2), .int .i64 (A 3), .int .i64 (A 4), .int .i64 (A 5), .int .i64 (A 6), .int .i64 (A 7), .int .i64 (A 8), .int .i64 (N : Int), .int .i64 (M : Int)] 128)).heap[w.heap.size]? = some (.cells #[.int .i64 (A 0), .int .i64 (A 1), .int .i64 (A 2), .int .i64 (A 3), .int .i64 (A 4), .int .i64 (A 5), .int .i64 (A 6), .int .i64 (A 7), .int .i64 (A 8), .int .i64 (N : Int), .int .i64 (M : Int)] 128)) := heap_new w _
  have HB : Hid (Below w.heap.size w (w.alloc (.cells #[.int .i64 (A 0), .int .i64 (A 1), .int .i64 (A 2), .int .i64 (A 3), .int .i64 (A 4), .int .i64 (A 5), .int .i64 (A 6), .int .i64 (A 7), .int .i64 (A 8), .int .i64 (N : Int), .int .i64 (M : Int)] 128))) := alG _ _
  obtain ⟨k, hk⟩ : ∃ k, (N + 9 - t) % 9 = k := ⟨_, rfl⟩
  have hk9 : k < 9 := by omega
  rw [hk] at hx
  have p := row11_cells HP.out
  have c := row_at HP.out k hk9
  rw [hx] at c
  have q1 : IntKind.i64.wrap ((N : Int) + 9) = (N : Int) + 9 := wrap_in (by omega) (by omega)
  have q2 : IntKind.i64.wrap ((N : Int) + 9 - t) = (N : Int) + 9 - t := wrap_in (by omega) (by omega)
  have q3 : ((N : Int) + 9 - t).tmod 9 = (k : Int) := by rw [Int.tmod_eq_emod_of_nonneg (by omega)]; omega
  have k0 : (0 : Int) ≤ k := by omega
  have k9 : (k : Int) < 9 := by omega
  clear hx HP hk
  go_enter Tryz.func110, Tryz.ntmps110
  go_wp2
  go_ret
  exact ⟨rfl, HB.out⟩
theorem intsV_put (l : List Int) (j : Nat) (x : Int) : (intsV l).toArray.setIfInBounds j (.int .i64 x) = (intsV (l.set j x)).toArray := by
  simp [intsV, List.map_set]
set_option maxRecDepth 100000 in
set_option maxHeartbeats 2000000 in
theorem listI (l : List Int) (A : Nat → Int) (N M : Nat) (hG : Ring l A N M) (w : World) :
    Calls Tryz.prog 79 #[.agg #[.int .i64 (A 0), .int .i64 (A 1), .int .i64 (A 2), .int .i64 (A 3), .int .i64 (A 4), .int .i64 (A 5), .int .i64 (A 6), .int .i64 (A 7), .int .i64 (A 8), .int .i64 (N : Int), .int .i64 (M : Int)]] w fun e w' => e = .returned (.slice (some ⟨w.heap.size + 1, 0, none⟩) M M) ∧ RowAt w' (w.heap.size + 1) l ∧ Below w.heap.size w w' := by
  obtain ⟨h1, h2, h3, h4⟩ := box11b w (.cells #[.int .i64 (A 0), .int .i64 (A 1), .int .i64 (A 2), .int .i64 (A 3), .int .i64 (A 4), .int .i64 (A 5), .int .i64 (A 6), .int .i64 (A 7), .int .i64 (A 8), .int .i64 (N : Int), .int .i64 (M : Int)] 128) (.cells (intsV (List.replicate M 0)).toArray 3)
  have HG : Hid (Ring l A N M) := hG
  have HL : Hid (l.length = M) := hG.2.1
  have hM := hG.2.2.1
  have hN := hG.1
  have HP0 : Hid (_ = _) := h1
  have HR0 : Hid (RowAt ((w.alloc (.cells #[.int .i64 (A 0), .int .i64 (A 1), .int .i64 (A 2), .int .i64 (A 3), .int .i64 (A 4), .int .i64 (A 5), .int .i64 (A 6), .int .i64 (A 7), .int .i64 (A 8), .int .i64 (N : Int), .int .i64 (M : Int)] 128)).alloc (.cells (intsV (List.replicate M 0)).toArray 3)) (w.heap.size + 1) (upto l M 0)) := by show RowAt _ _ _; rw [upto_zero]; exact h2
  have HB0 : Hid (Below _ _ _) := h3
  have HS0 : Hid ((w.alloc (.cells #[.int .i64 (A 0), .int .i64 (A 1), .int .i64 (A 2), .int .i64 (A 3), .int .i64 (A 4), .int .i64 (A 5), .int .i64 (A 6), .int .i64 (A 7), .int .i64 (A 8), .int .i64 (N : Int), .int .i64 (M : Int)] 128)).heap.size = w.heap.size + 1) := by show _ = _; simp
  have p0 := row11_cells (heap_new w (.cells #[.int .i64 (A 0), .int .i64 (A 1), .int .i64 (A 2), .int .i64 (A 3), .int .i64 (A 4), .int .i64 (A 5), .int .i64 (A 6), .int .i64 (A 7), .int .i64 (A 8), .int .i64 (N : Int), .int .i64 (M : Int)] 128))
  have hmk := run_make_row' (P := Tryz.prog) 28 3 (.int .i64 0) 8 Tryz.underlying28 info3 rfl .i64 .i64 M (by omega) (by omega)
  rw [made_ints] at hmk
  clear h1 h2 h3 h4 hG
  have hm0 : (0 : Int) ≤ M := by omega
  go_enter Tryz.func79, Tryz.ntmps79
  go_wp2
  go_loopg [10] M (fun gk i wr => ∃ j : Nat, j + gk = M ∧ i = .int .i64 j ∧ Hid (RowAt wr (w.heap.size + 1) (upto l M j)) ∧ Hid (wr.heap[w.heap.size]? = some (.cells #[.int .i64 (A 0), .int .i64 (A 1), .int .i64 (A 2), .int .i64 (A 3), .int .i64 (A 4), .int .i64 (A 5), .int .i64 (A 6), .int .i64 (A 7), .int .i64 (A 8), .int .i64 (N : Int), .int .i64 (M : Int)] 128)) ∧ Hid (Below w.heap.size w wr))
  case atStart => exact ⟨0, by omega, rfl, HR0, HP0, HB0⟩
  case round =>
    clear HR0 HP0 HB0 HS0 p0 hmk
    obtain ⟨j, hj, rfl, HR, HP, HB⟩ := hrel
    have p := row11_cells HP.out
    by_cases hlt : j < M
    · have hjl : j < l.length := by have := HL.out; omega
      obtain ⟨x, hx⟩ : ∃ x, l[j] = x := ⟨_, rfl⟩
      have HX : Hid (A ((N + 9 - (j + 1)) % 9) = x) := by show _ = _; rw [HG.out.2.2.2 j hjl]; exact hx
      have q1 : IntKind.i64.wrap ((j : Int) + 1) = ((j + 1 : Nat) : Int) := by rw [wrap_in (by omega) (by omega)]; omega
      have HU : Hid ((upto l M j).set j x = upto l M (j + 1)) := by show _ = _; rw [← hx]; exact upto_set HL.out hlt hjl
      have hul : (upto l M j).length = M := upto_len HL.out (by omega)
      have j0 : (0 : Int) ≤ j := by omega
      have jM : (j : Int) < M := by omega
      clear hx
      go_wp2_with fail
      refine (agoI A N M (j + 1) x hN (by omega) HX.out _).mono ?_
      rintro e w1 ⟨rfl, hb1⟩
      have HR1 : Hid (w1.heap[w.heap.size + 1]? = some (.cells (intsV (upto l M j)).toArray 3)) := row_on HR.out hb1
      have HP1 : Hid (w1.heap[w.heap.size]? = some (.cells #[.int .i64 (A 0), .int .i64 (A 1), .int .i64 (A 2), .int .i64 (A 3), .int .i64 (A 4), .int .i64 (A 5), .int .i64 (A 6), .int .i64 (A 7), .int .i64 (A 8), .int .i64 (N : Int), .int .i64 (M : Int)] 128)) := row_on HP.out hb1
      have HB1 : Hid (Below w.heap.size w w1) := bel_on (Nat.le_refl _) HB.out hb1
      clear hb1 HR HP HB p
      go_wp2_with (refine listStoreI rfl rfl _ _ _ rfl rfl (w.heap.size + 1) j x rfl rfl HR1.out (by simp [intsV, hul]; omega) ?_)
      intro w2 hput
      have HR2 : Hid (RowAt w2 (w.heap.size + 1) (upto l M (j + 1))) := by have h := hput.1; rw [intsV_put, HU.out] at h; exact h
      have HP2 : Hid (w2.heap[w.heap.size]? = some (.cells #[.int .i64 (A 0), .int .i64 (A 1), .int .i64 (A 2), .int .i64 (A 3), .int .i64 (A 4), .int .i64 (A 5), .int .i64 (A 6), .int .i64 (A 7), .int .i64 (A 8), .int .i64 (N : Int), .int .i64 (M : Int)] 128)) := hput.far HP1.out (by omega)
      have HB2 : Hid (Below w.heap.size w w2) := hput.2.2.2 _ _ (Nat.le_succ _) HB1.out
      clear hput HR1 HP1 HB1 HU HX
      go_wp2
      go_roundg (gk - 1)
      case measure => omega
      case rel => exact ⟨j + 1, by omega, by go_num, HR2, HP2, HB2⟩
    · obtain rfl : j = M := by omega
      have HE : Hid (RowAt wr (w.heap.size + 1) l) := by have h := HR.out; rw [upto_all HL.out] at h; exact h
      clear HR
      go_wp2
      go_ret
      exact ⟨rfl, HE.out, HB.out⟩
/-- eleven numbers stored into a row, as one, in a drawn region -/
theorem storeT_any {ops : Array Oper} {o : Oper} {a : Act} {K : Act → World → Prop} {Q : Exit → Act → World → Prop} {E : Prop} {w : World} (hw : Region.wanted o (yielded ops a.tmps) = true) (hd : o.dst = none) (x y : Operand) (ty : TypeId) (ho : o.op = .store ty x y) (hty : ty = 128)
    (g : Nat) (z0 z1 z2 z3 z4 z5 z6 z7 z8 z9 z10 : Int) (hx : a.eval x = .pointer (some ⟨g, 0, none⟩)) (hy : a.eval y = .agg #[.int .i64 z0, .int .i64 z1, .int .i64 z2, .int .i64 z3, .int .i64 z4, .int .i64 z5, .int .i64 z6, .int .i64 z7, .int .i64 z8, .int .i64 z9, .int .i64 z10])
    {u0 u1 u2 u3 u4 u5 u6 u7 u8 u9 u10 : Value} (hg : w.heap[g]? = some (.cells #[u0, u1, u2, u3, u4, u5, u6, u7, u8, u9, u10] 128))
    (h : ∀ w' : World, PutG w w' g (.cells #[.int .i64 z0, .int .i64 z1, .int .i64 z2, .int .i64 z3, .int .i64 z4, .int .i64 z5, .int .i64 z6, .int .i64 z7, .int .i64 z8, .int .i64 z9, .int .i64 z10] 128) → K a w') : if Region.wanted o (yielded ops a.tmps) = true then Oper.wp Tryz.prog o a w K Q else E := by
  subst hty
  rw [if_pos hw]
  refine wp_store_row _ x y ho g _ hx hy _ _ hg (by kernel_rfl) rfl (by kernel_rfl) ?_
  rw [hd]
  refine h _ ⟨setRow_heap w g _ _ _ _ hg, fun k hk => setRow_other w g k _ hk, setRow_size w g _, fun B W hB hb => ?_⟩
  exact ⟨hb.os, hb.tape, hb.output, by rw [setRow_size]; exact hb.size, fun k hk => by rw [setRow_other w g k _ (by omega)]; exact hb.block k hk⟩
theorem drop_take {l : List Int} {j n : Nat} (hl : l.length = n) (hn : n ≤ 9) (hj : j < n) (hk : n - 1 - j < l.length) : (l[n - 1 - j] :: l.drop (n - j)).take 9 = l.drop (n - (j + 1)) := by
  have h1 : n - (j + 1) = n - 1 - j := by omega
  have h2 : n - j = n - 1 - j + 1 := by omega
  rw [h1, h2, ← List.drop_eq_getElem_cons hk]
  exact List.take_of_length_le (by simp; omega)
set_option maxRecDepth 100000 in
set_option maxHeartbeats 4000000 in
theorem pastI (a : Option Addr) (l : List Int) (n cap : Nat) (hl : l.length = n) (hn : n ≤ 9) (w : World) (hr : Rd w a l) :
    Calls Tryz.prog 77 #[.slice a n cap] w fun e w' => ∃ (A : Nat → Int) (N M : Nat), e = .returned (.agg #[.int .i64 (A 0), .int .i64 (A 1), .int .i64 (A 2), .int .i64 (A 3), .int .i64 (A 4), .int .i64 (A 5), .int .i64 (A 6), .int .i64 (A 7), .int .i64 (A 8), .int .i64 (N : Int), .int .i64 (M : Int)]) ∧ Ring l A N M ∧ Below w.heap.size w w' := by
  obtain ⟨h1, h2, h3, h4⟩ := box11b w (.cells #[.int .i64 0, .int .i64 0, .int .i64 0, .int .i64 0, .int .i64 0, .int .i64 0, .int .i64 0, .int .i64 0, .int .i64 0, .int .i64 0, .int .i64 0] 128) (.cells #[.int .i64 0, .int .i64 0, .int .i64 0, .int .i64 0, .int .i64 0, .int .i64 0, .int .i64 0, .int .i64 0, .int .i64 0, .int .i64 0, .int .i64 0] 128)
  have HZ0 : Hid (_ = _) := h1
  have HP0 : Hid (_ = _) := h2
  have HB0 : Hid (Below _ _ _) := h3
  have HL : Hid (l.length = n) := hl
  have HR : Hid (Rd w a l) := hr
  have HG0 : Hid (Ring (l.drop (n - 0)) (fun _ => 0) 0 0) := by
    show Ring _ _ _ _
    rw [List.drop_of_length_le (by omega)]
    exact ring_nil
  clear h1 h2 h3 h4 hl hr
  go_enter Tryz.func77, Tryz.ntmps77
  go_wp2
  go_loopg [7] n (fun gk i wr => ∃ (j : Nat) (A : Nat → Int) (N M : Nat), j + gk = n ∧ i = .int .i64 j ∧ Hid (Ring (l.drop (n - j)) A N M) ∧ Hid (wr.heap[w.heap.size]? = some (.cells #[.int .i64 0, .int .i64 0, .int .i64 0, .int .i64 0, .int .i64 0, .int .i64 0, .int .i64 0, .int .i64 0, .int .i64 0, .int .i64 0, .int .i64 0] 128)) ∧ Hid (wr.heap[w.heap.size + 1]? = some (.cells #[.int .i64 (A 0), .int .i64 (A 1), .int .i64 (A 2), .int .i64 (A 3), .int .i64 (A 4), .int .i64 (A 5), .int .i64 (A 6), .int .i64 (A 7), .int .i64 (A 8), .int .i64 (N : Int), .int .i64 (M : Int)] 128)) ∧ Hid (Below w.heap.size w wr))
  case atStart => exact ⟨0, fun _ => 0, 0, 0, by omega, rfl, HG0, HZ0, HP0, HB0⟩
  case round =>
    clear HG0 HZ0 HP0 HB0
    obtain ⟨j, A, N, M, hj, rfl, HG, HZ, HP, HB⟩ := hrel
    by_cases hlt : j < n
    · obtain ⟨k, hk⟩ : ∃ k, n - 1 - j = k := ⟨_, rfl⟩
      have hkl : n - 1 - j < l.length := by have := HL.out; omega
      obtain ⟨b, off, ha, hc⟩ := HR.out (by omega)
      subst ha
      have hcc := hc _ hkl
      obtain ⟨x, hx⟩ : ∃ x, l[n - 1 - j] = x := ⟨_, rfl⟩
      have HD : Hid ((x :: l.drop (n - j)).take 9 = l.drop (n - (j + 1))) := by show _ = _; rw [← hx]; exact drop_take HL.out hn hlt hkl
      rw [hx, hk] at hcc
      have HC : Hid (w.cell? ⟨b, off + k, none⟩ = some (.int .i64 x)) := hcc
      have c1 : wr.cell? ⟨b, off + k, none⟩ = some (.int .i64 x) := (HB.out.cell (p := ⟨b, off + k, none⟩) (World.block_lt_of_cell? w ⟨b, off + k, none⟩ hcc)).trans hcc
      have q1 : IntKind.i64.wrap ((n : Int) - 1) = (n : Int) - 1 := wrap_in (by omega) (by omega)
      have q2 : IntKind.i64.wrap ((n : Int) - 1 - j) = (k : Int) := by rw [wrap_in (by omega) (by omega)]; omega
      have k0 : (0 : Int) ≤ k := by omega
      have kn : (k : Int) < n := by omega
      have kn' : k < n := by omega
      clear hc hcc hx hkl
      go_upto_region 5 with fail
      refine wp_region_held_drew (S := fun w' => w'.cell? ⟨b, off + k, none⟩ = some (.int .i64 x) ∧ Below w.heap.size w w') (by kernel_rfl) ⟨c1, HB.out.drew⟩ (fun hHeld => ?_)
      refine wpAnyH_take (i := 1) (v := ?_) rfl (by kernel_rfl) (by kernel_rfl) (by kernel_rfl) (fun _ _ _ h => h) (Or.inl ⟨by rfl, ?_⟩) (by assumption) ?_
      rotate_left
      · intro w_ hSw; (try dsimp only at hSw); go_simp <;> with_reducible rfl
      try simp only [Act.put, List.setIfInBounds_toArray, List.set_cons_zero, List.set_cons_succ, List.getElem_toArray, List.getElem_cons_zero, List.getElem_cons_succ]
      refine wpAnyH_take (i := 2) (v := ?_) rfl (by kernel_rfl) (by kernel_rfl) (by kernel_rfl) (fun _ _ _ h => h) (Or.inl ⟨by rfl, ?_⟩) (by assumption) ?_
      rotate_left
      · intro w_ hSw; (try dsimp only at hSw); go_simp <;> with_reducible rfl
      try simp only [Act.put, List.setIfInBounds_toArray, List.set_cons_zero, List.set_cons_succ, List.getElem_toArray, List.getElem_cons_zero, List.getElem_cons_succ]
      refine wpAnyH_take (i := 3) (v := ?_) rfl (by kernel_rfl) (by kernel_rfl) (by kernel_rfl) (fun _ _ _ h => h) (Or.inl ⟨by rfl, ?_⟩) (by assumption) ?_
      rotate_left
      · intro w_ hSw; (try dsimp only at hSw); go_simp <;> with_reducible rfl
      try simp only [Act.put, List.setIfInBounds_toArray, List.set_cons_zero, List.set_cons_succ, List.getElem_toArray, List.getElem_cons_zero, List.getElem_cons_succ]
      refine wpAnyH_take (i := 4) (v := ?_) rfl (by kernel_rfl) (by kernel_rfl) (by kernel_rfl) (fun _ _ _ h => h) (Or.inl ⟨by rfl, ?_⟩) (by assumption) ?_
      rotate_left
      · intro w_ hSw; (try dsimp only at hSw); go_simp <;> with_reducible rfl
      try simp only [Act.put, List.setIfInBounds_toArray, List.set_cons_zero, List.set_cons_succ, List.getElem_toArray, List.getElem_cons_zero, List.getElem_cons_succ]
      refine wpAnyH_take (i := 5) (v := ?_) rfl (by kernel_rfl) (by kernel_rfl) (by kernel_rfl) (fun _ _ _ h => h) (Or.inl ⟨by rfl, ?_⟩) (by assumption) ?_
      rotate_left
      · intro w_ hSw; (try dsimp only at hSw); go_simp <;> with_reducible rfl
      try simp only [Act.put, List.setIfInBounds_toArray, List.set_cons_zero, List.set_cons_succ, List.getElem_toArray, List.getElem_cons_zero, List.getElem_cons_succ]
      refine wpAnyH_take (i := 6) (v := ?_) rfl (by kernel_rfl) (by kernel_rfl) (by kernel_rfl) (fun _ _ _ h => h) (Or.inl ⟨by rfl, ?_⟩) (by assumption) ?_
      rotate_left
      · intro w_ hSw; (try dsimp only at hSw); go_simp <;> with_reducible rfl
      try simp only [Act.put, List.setIfInBounds_toArray, List.set_cons_zero, List.set_cons_succ, List.getElem_toArray, List.getElem_cons_zero, List.getElem_cons_succ]
      refine wpAnyH_take (i := 7) (v := ?_) rfl (by kernel_rfl) (by kernel_rfl) (by kernel_rfl) (fun _ _ _ h => h) (Or.inl ⟨by rfl, ?_⟩) (by assumption) ?_
      rotate_left
      · intro w_ hSw; (try dsimp only at hSw); go_simp <;> with_reducible rfl
      try simp only [Act.put, List.setIfInBounds_toArray, List.set_cons_zero, List.set_cons_succ, List.getElem_toArray, List.getElem_cons_zero, List.getElem_cons_succ]
      refine wpAnyH_take (i := 8) (v := ?_) rfl (by kernel_rfl) (by kernel_rfl) (by kernel_rfl) (fun _ _ _ h => h) (Or.inl ⟨by rfl, ?_⟩) (by assumption) ?_
      rotate_left
      · intro w_ hSw; (try dsimp only at hSw); go_simp <;> with_reducible rfl
      try simp only [Act.put, List.setIfInBounds_toArray, List.set_cons_zero, List.set_cons_succ, List.getElem_toArray, List.getElem_cons_zero, List.getElem_cons_succ]
      refine wpAnyH_ready (rs := [0]) (by kernel_rfl) (by simp) ?_
      refine AllReadyH.cons rfl (fun J hJ => ?_) AllReadyH.nil
      have p := row11_cells (w := wr.drew) HP.out
      go_simp
      refine hJ.out _ _ ⟨c1, HB.out.drew⟩ (fun hHeld1 => ?_)
      clear hJ J p
      try simp only [Act.put, List.setIfInBounds_toArray, List.set_cons_zero, List.set_cons_succ, List.getElem_toArray, List.getElem_cons_zero, List.getElem_cons_succ]
      refine wpAnyH_ready (rs := [9]) (by kernel_rfl) (by simp) ?_
      refine AllReadyH.cons rfl (fun J hJ => ?_) AllReadyH.nil
      go_simp
      go_at_call 78
      refine (withI A N M x HG.out.1 HG.out.2.2.1 _).mono ?_
      rintro e v1 ⟨rfl, hbc⟩
      have HB1 : Hid (Below w.heap.size w v1) := bel_on (Nat.le_refl _) HB.out.drew hbc
      have HP1 : Hid (v1.heap[w.heap.size + 1]? = some (.cells #[.int .i64 (A 0), .int .i64 (A 1), .int .i64 (A 2), .int .i64 (A 3), .int .i64 (A 4), .int .i64 (A 5), .int .i64 (A 6), .int .i64 (A 7), .int .i64 (A 8), .int .i64 (N : Int), .int .i64 (M : Int)] 128)) := row_on (w := wr.drew) HP.out hbc
      have HZ1 : Hid (v1.heap[w.heap.size]? = some (.cells #[.int .i64 0, .int .i64 0, .int .i64 0, .int .i64 0, .int .i64 0, .int .i64 0, .int .i64 0, .int .i64 0, .int .i64 0, .int .i64 0, .int .i64 0] 128)) := row_on (w := wr.drew) HZ.out hbc
      have HC1 : Hid (v1.cell? ⟨b, off + k, none⟩ = some (.int .i64 x)) := (HB1.out.cell (p := ⟨b, off + k, none⟩) (World.block_lt_of_cell? w ⟨b, off + k, none⟩ HC.out)).trans HC.out
      obtain ⟨A', hA'⟩ : ∃ A', putA A N x = A' := ⟨_, rfl⟩
      obtain ⟨N', hN'⟩ : ∃ N', (N + 1) % 9 = N' := ⟨_, rfl⟩
      obtain ⟨M', hM'⟩ : ∃ M', min (M + 1) 9 = M' := ⟨_, rfl⟩
      have HG' : Hid (Ring (l.drop (n - (j + 1))) A' N' M') := by
        have h := ring_put HG.out x
        rw [hA', hN', hM', HD.out] at h
        exact h
      rw [hA', hN', hM']
      clear hbc HB HP HZ HG c1
      go_wp2_with fail
      refine hJ.out _ _ ⟨HC1.out, HB1.out⟩ (fun hHeld2 => ?_)
      clear hJ J hHeld hHeld1
      try simp only [Act.put, List.setIfInBounds_toArray, List.set_cons_zero, List.set_cons_succ, List.getElem_toArray, List.getElem_cons_zero, List.getElem_cons_succ]
      refine wpAnyH_ready (rs := [10]) (by kernel_rfl) (by simp) ?_
      refine AllReadyH.cons rfl (fun J hJ => ?_) AllReadyH.nil
      refine storeT_any rfl rfl _ _ _ rfl rfl (w.heap.size + 1) (A' 0) (A' 1) (A' 2) (A' 3) (A' 4) (A' 5) (A' 6) (A' 7) (A' 8) N' M' rfl rfl HP1.out ?_
      intro w2 hput
      have HB2 : Hid (Below w.heap.size w w2) := hput.2.2.2 _ _ (Nat.le_succ _) HB1.out
      have HP2 : Hid (w2.heap[w.heap.size + 1]? = some (.cells #[.int .i64 (A' 0), .int .i64 (A' 1), .int .i64 (A' 2), .int .i64 (A' 3), .int .i64 (A' 4), .int .i64 (A' 5), .int .i64 (A' 6), .int .i64 (A' 7), .int .i64 (A' 8), .int .i64 (N' : Int), .int .i64 (M' : Int)] 128)) := hput.1
      have HZ2 : Hid (w2.heap[w.heap.size]? = some (.cells #[.int .i64 0, .int .i64 0, .int .i64 0, .int .i64 0, .int .i64 0, .int .i64 0, .int .i64 0, .int .i64 0, .int .i64 0, .int .i64 0, .int .i64 0] 128)) := hput.far HZ1.out (by omega)
      have HC2 : Hid (w2.cell? ⟨b, off + k, none⟩ = some (.int .i64 x)) := (HB2.out.cell (p := ⟨b, off + k, none⟩) (World.block_lt_of_cell? w ⟨b, off + k, none⟩ HC.out)).trans HC.out
      clear hput HB1 HP1 HZ1 HC1
      refine hJ.out _ _ ⟨HC2.out, HB2.out⟩ (fun hHeld3 => ?_)
      clear hJ J hHeld2
      try simp only [Act.put, List.setIfInBounds_toArray, List.set_cons_zero, List.set_cons_succ, List.getElem_toArray, List.getElem_cons_zero, List.getElem_cons_succ]
      refine wpAnyH_done (by kernel_rfl) ?_ _
      clear hHeld3 HC2 HC
      go_wp2
      go_roundg (gk - 1)
      case measure => omega
      case rel => exact ⟨j + 1, A', N', M', by omega, by go_num, HG', HZ2, HP2, HB2⟩
    · obtain rfl : j = n := by omega
      have HE : Hid (Ring l A N M) := by have h := HG.out; rw [Nat.sub_self, List.drop_zero] at h; exact h
      have p := row11_cells HP.out
      clear HG
      go_upto_region 7 with fail
      go_wp2_with (refine listStoreT rfl rfl _ _ _ rfl rfl w.heap.size (A 0) (A 1) (A 2) (A 3) (A 4) (A 5) (A 6) (A 7) (A 8) N M rfl rfl HZ.out ?_)
      intro w2 hput
      have HB2 : Hid (Below w.heap.size w w2) := hput.2.2.2 _ _ (Nat.le_refl _) HB.out
      have z := row11_cells hput.1
      clear hput
      go_wp2
      refine bodyPost_ret (v := .agg #[.int .i64 (A 0), .int .i64 (A 1), .int .i64 (A 2), .int .i64 (A 3), .int .i64 (A 4), .int .i64 (A 5), .int .i64 (A 6), .int .i64 (A 7), .int .i64 (A 8), .int .i64 (N : Int), .int .i64 (M : Int)]) (by simp only [results, Tryz.results77]; simp [go_sem, z]) rfl ⟨A, N, M, rfl, HE.out, HB2.out⟩
end Go.Proofs.YtdifmjcghaoilaaGreatDoor.G

namespace Go.Proofs.YtdifmjcghaoilaaGreatDoor.G
open Go.RowKit Go.PlainAid
set_option linter.unusedVariables false
set_option linter.unusedSimpArgs false

/-- two boxed guards behind what only grew -/
def KP2 (w w' : World) (p z : Obj) : Prop := w'.heap[w.heap.size]? = some p ∧ w'.heap[w.heap.size + 1]? = some z ∧ Below w.heap.size w w'
theorem KP2.on {w w' w2 : World} {p z : Obj} (h : KP2 w w' p z) (hb : Below w'.heap.size w' w2) : KP2 w w2 p z := ⟨row_on h.1 hb, row_on h.2.1 hb, bel_on (Nat.le_refl _) h.2.2 hb⟩
theorem kp_conj {w w' : World} {x y : Value} {T : TypeId} {z : Obj} (h : KP2 w w' (.cells #[x, y] T) z) : w'.cell? ⟨w.heap.size, 0, none⟩ = some x ∧ w'.cell? ⟨w.heap.size, 1, none⟩ = some y ∧ Below w.heap.size w w' := by
  refine ⟨?_, ?_, h.2.2⟩ <;> simp [World.cell?, h.1]
set_option maxRecDepth 100000 in
set_option maxHeartbeats 8000000 in
theorem passI (a : Option Addr) (al : Int) (l : List Int) (n cap : Nat) (x : Int) (b : Bool) (Y : List Int) (m : Nat) (hY : passL b l x = Y) (hm : Y.length = m) (hl : l.length = n) (hn : n ≤ 1048576) (ha : a = none → n = 0 ∧ cap = 0) (hb : b = true ↔ GdR l al) (w : World) (hr : Rd w a l) :
    Calls Tryz.prog 47 #[.agg #[.slice a n cap, .int .i64 al], .int .i64 x] w fun e w' => ∃ g c, e = .returned (.agg #[.slice (some ⟨g, 0, none⟩) m c, .int .i64 al]) ∧ OwnN w' w.heap.size g m c Y ∧ Below w.heap.size w w' := by
  have HY : Hid (passL b l x = Y) := hY
  have HM0 : Hid (Y.length = m) := hm
  have HL : Hid (l.length = n) := hl
  have HR : Hid (Rd w a l) := hr
  have HBo : Hid (b = true ↔ GdR l al) := hb
  obtain ⟨h1, h2, h3, h4⟩ := box2b w (.slice a n cap) (.int .i64 al) (.slice none 0 0) (.int .i64 0) 30 30
  have HP0 : Hid (_ = _) := h1
  have HZ0 : Hid (_ = _) := h2
  have HB0 : Hid (Below _ _ _) := h3
  have p0 := row2_cells HP0.out
  clear hY hm hl hr ha hb h1 h2 h3 h4
  go_enter Tryz.func47, Tryz.ntmps47
  go_wp2_with fail
  refine (guardokI a al l n cap b HL.out (by omega) HBo.out _ (HR.out.keep HB0.out (Nat.le_refl _))).mono ?_
  rintro e w1 ⟨rfl, hb1⟩
  have HB1 : Hid (Below w.heap.size w w1) := bel_on (Nat.le_refl _) HB0.out hb1
  have HP1 : Hid (w1.heap[w.heap.size]? = some (.cells #[.slice a n cap, .int .i64 al] 30)) := row_on HP0.out hb1
  have HZ1 : Hid (w1.heap[w.heap.size + 1]? = some (.cells #[.slice none 0 0, .int .i64 0] 30)) := row_on HZ0.out hb1
  have p1 := row2_cells HP1.out
  clear hb1 HB0 HP0 HZ0 p0
  cases b
  · obtain rfl : l = Y := by rw [← HY.out]; simp [passL]
    obtain rfl : n = m := by rw [← HL.out]; exact HM0.out
    clear HY HM0
    go_wp2_with fail
    refine (copyGI a al l n cap HL.out hn _ (HR.out.keep HB1.out (Nat.le_refl _))).mono ?_
    rintro e w2 ⟨rfl, hown, hb1⟩
    have HB2 : Hid (Below w.heap.size w w2) := bel_on (Nat.le_refl _) HB1.out hb1
    have HZ2 : Hid (w2.heap[w.heap.size + 1]? = some (.cells #[.slice none 0 0, .int .i64 0] 30)) := row_on HZ1.out hb1
    have hz1 := row_lt HZ1.out
    obtain ⟨g, hg⟩ : ∃ g, w1.heap.size + 2 = g := ⟨_, rfl⟩
    rw [hg] at hown ⊢
    have HO2 : Hid (OwnN w2 (w.heap.size + 2) g n n l) := hown.mono (by omega)
    have hg2 := HO2.out.ge
    clear hown hb1 HB1 HP1 HZ1 p1 hg hz1
    go_wp2_with (refine listStoreG rfl rfl _ _ _ rfl rfl (w.heap.size + 1) (some ⟨g, 0, none⟩) n n al rfl rfl HZ2.out ?_)
    intro w9 hput
    have HB9 : Hid (Below w.heap.size w w9) := hput.2.2.2 _ _ (Nat.le_succ _) HB2.out
    have HO9 : Hid (OwnN w9 w.heap.size g n n l) := hput.own (HO2.out.mono (by omega)) (by omega)
    obtain ⟨z0, z1, _⟩ := row2_cells hput.1
    clear hput
    go_wp2
    refine bodyPost_ret (v := .agg #[.slice (some ⟨g, 0, none⟩) n n, .int .i64 al]) (by simp only [results, Tryz.results47]; simp [go_sem, z0, z1]) rfl ⟨g, n, rfl, HO9.out, HB9.out⟩
  have HGR : Hid (GdR l al) := HBo.out.1 rfl
  obtain ⟨v, hv⟩ : ∃ v, letG l x = v := ⟨_, rfl⟩
  have HV : Hid (letG l x = v) := hv
  have HYv : Hid ((v :: l).take 9 = Y) := by show _ = _; rw [← HY.out, ← hv]; simp [passL]
  have hn9 : n ≤ 9 := by have := HGR.out.1; have := HL.out; omega
  have HK0 : Hid (KP2 w w1.drew (.cells #[.slice a n cap, .int .i64 al] 30) (.cells #[.slice none 0 0, .int .i64 0] 30)) := ⟨HP1.out, HZ1.out, HB1.out.drew⟩
  clear hv HY HBo
  go_upto_region 3 with fail
  clear p1 HP1 HZ1 HB1
  refine wp_region_held_drew (S := fun w' => w'.cell? ⟨w.heap.size, 0, none⟩ = some (.slice a n cap) ∧ w'.cell? ⟨w.heap.size, 1, none⟩ = some (.int .i64 al) ∧ Below w.heap.size w w') (by kernel_rfl) (kp_conj HK0.out) (fun hHeld => ?_)
  refine wpAnyH_take (i := 0) (v := ?_) rfl (by kernel_rfl) (by kernel_rfl) (by kernel_rfl) (fun _ _ _ h => h) (Or.inl ⟨by rfl, ?_⟩) (by assumption) ?_
  rotate_left
  · intro w_ hSw; (try dsimp only at hSw); go_simp <;> with_reducible rfl
  try simp only [Act.put, List.setIfInBounds_toArray, List.set_cons_zero, List.set_cons_succ, List.getElem_toArray, List.getElem_cons_zero, List.getElem_cons_succ]
  refine wpAnyH_take (i := 1) (v := ?_) rfl (by kernel_rfl) (by kernel_rfl) (by kernel_rfl) (fun _ _ _ h => h) (Or.inl ⟨by rfl, ?_⟩) (by assumption) ?_
  rotate_left
  · intro w_ hSw; (try dsimp only at hSw); go_simp <;> with_reducible rfl
  try simp only [Act.put, List.setIfInBounds_toArray, List.set_cons_zero, List.set_cons_succ, List.getElem_toArray, List.getElem_cons_zero, List.getElem_cons_succ]
  refine wpAnyH_take (i := 3) (v := ?_) rfl (by kernel_rfl) (by kernel_rfl) (by kernel_rfl) (fun _ _ _ h => h) (Or.inl ⟨by rfl, ?_⟩) (by assumption) ?_
  rotate_left
  · intro w_ hSw; (try dsimp only at hSw); go_simp <;> with_reducible rfl
  try simp only [Act.put, List.setIfInBounds_toArray, List.set_cons_zero, List.set_cons_succ, List.getElem_toArray, List.getElem_cons_zero, List.getElem_cons_succ]
  refine wpAnyH_take (i := 4) (v := ?_) rfl (by kernel_rfl) (by kernel_rfl) (by kernel_rfl) (fun _ _ _ h => h) (Or.inl ⟨by rfl, ?_⟩) (by assumption) ?_
  rotate_left
  · intro w_ hSw; (try dsimp only at hSw); go_simp <;> with_reducible rfl
  try simp only [Act.put, List.setIfInBounds_toArray, List.set_cons_zero, List.set_cons_succ, List.getElem_toArray, List.getElem_cons_zero, List.getElem_cons_succ]
  refine wpAnyH_take (i := 8) (v := ?_) rfl (by kernel_rfl) (by kernel_rfl) (by kernel_rfl) (fun _ _ _ h => h) (Or.inl ⟨by rfl, ?_⟩) (by assumption) ?_
  rotate_left
  · intro w_ hSw; (try dsimp only at hSw); go_simp <;> with_reducible rfl
  try simp only [Act.put, List.setIfInBounds_toArray, List.set_cons_zero, List.set_cons_succ, List.getElem_toArray, List.getElem_cons_zero, List.getElem_cons_succ]
  refine wpAnyH_take (i := 9) (v := ?_) rfl (by kernel_rfl) (by kernel_rfl) (by kernel_rfl) (fun _ _ _ h => h) (Or.inl ⟨by rfl, ?_⟩) (by assumption) ?_
  rotate_left
  · intro w_ hSw; (try dsimp only at hSw); go_simp <;> with_reducible rfl
  try simp only [Act.put, List.setIfInBounds_toArray, List.set_cons_zero, List.set_cons_succ, List.getElem_toArray, List.getElem_cons_zero, List.getElem_cons_succ]
  refine wpAnyH_ready (rs := [2]) (by kernel_rfl) (by simp) ?_
  refine AllReadyH.cons rfl (fun J hJ => ?_) AllReadyH.nil
  go_simp
  go_at_call 77
  refine (pastI a l n cap HL.out hn9 _ (HR.out.keep HK0.out.2.2 (Nat.le_refl _))).mono ?_
  rintro e v1 ⟨A, N, M, rfl, hring, hbc⟩
  have HG : Hid (Ring l A N M) := hring
  have HK1 : Hid (KP2 w v1 (.cells #[.slice a n cap, .int .i64 al] 30) (.cells #[.slice none 0 0, .int .i64 0] 30)) := HK0.out.on hbc
  clear hbc HK0 hring
  go_wp2_with fail
  refine hJ.out _ _ (kp_conj HK1.out) (fun hHeld1 => ?_)
  clear hJ J
  try simp only [Act.put, List.setIfInBounds_toArray, List.set_cons_zero, List.set_cons_succ, List.getElem_toArray, List.getElem_cons_zero, List.getElem_cons_succ]
  refine wpAnyH_ready (rs := [5]) (by kernel_rfl) (by simp) ?_
  refine AllReadyH.cons rfl (fun J hJ => ?_) AllReadyH.nil
  go_simp
  go_at_call 66
  refine (inRoomI a al l n cap x v HGR.out HV.out HL.out hn _ (HR.out.keep HK1.out.2.2 (Nat.le_refl _))).mono ?_
  rintro e v2 ⟨rfl, hbc⟩
  have HK2 : Hid (KP2 w v2 (.cells #[.slice a n cap, .int .i64 al] 30) (.cells #[.slice none 0 0, .int .i64 0] 30)) := HK1.out.on hbc
  clear hbc HK1
  go_wp2_with fail
  refine hJ.out _ _ (kp_conj HK2.out) (fun hHeld2 => ?_)
  clear hJ J
  try simp only [Act.put, List.setIfInBounds_toArray, List.set_cons_zero, List.set_cons_succ, List.getElem_toArray, List.getElem_cons_zero, List.getElem_cons_succ]
  refine wpAnyH_ready (rs := [6]) (by kernel_rfl) (by simp) ?_
  refine AllReadyH.cons rfl (fun J hJ => ?_) AllReadyH.nil
  go_simp
  go_at_call 78
  refine (withI A N M v HG.out.1 HG.out.2.2.1 _).mono ?_
  rintro e v3 ⟨rfl, hbc⟩
  have HK3 : Hid (KP2 w v3 (.cells #[.slice a n cap, .int .i64 al] 30) (.cells #[.slice none 0 0, .int .i64 0] 30)) := HK2.out.on hbc
  obtain ⟨A', hA'⟩ : ∃ A', putA A N v = A' := ⟨_, rfl⟩
  obtain ⟨N', hN'⟩ : ∃ N', (N + 1) % 9 = N' := ⟨_, rfl⟩
  obtain ⟨M', hM'⟩ : ∃ M', min (M + 1) 9 = M' := ⟨_, rfl⟩
  have HG' : Hid (Ring Y A' N' M') := by
    have h := ring_put HG.out v
    rw [hA', hN', hM', HYv.out] at h
    exact h
  rw [hA', hN', hM']
  obtain rfl : M' = m := by rw [← HG'.out.2.1]; exact HM0.out
  clear hbc HK2 hA' hN' hM' HG
  go_wp2_with fail
  refine hJ.out _ _ (kp_conj HK3.out) (fun hHeld3 => ?_)
  clear hJ J hHeld1 hHeld2
  try simp only [Act.put, List.setIfInBounds_toArray, List.set_cons_zero, List.set_cons_succ, List.getElem_toArray, List.getElem_cons_zero, List.getElem_cons_succ]
  refine wpAnyH_ready (rs := [7]) (by kernel_rfl) (by simp) ?_
  refine AllReadyH.cons rfl (fun J hJ => ?_) AllReadyH.nil
  go_simp
  go_at_call 79
  refine (listI Y A' N' M' HG'.out _).mono ?_
  rintro e v4 ⟨rfl, hrow, hbc⟩
  have HK4 : Hid (KP2 w v4 (.cells #[.slice a n cap, .int .i64 al] 30) (.cells #[.slice none 0 0, .int .i64 0] 30)) := HK3.out.on hbc
  have hz3 : w.heap.size + 1 < v3.heap.size := row_lt HK3.out.2.1
  have HO4 : Hid (OwnN v4 (w.heap.size + 2) (v3.heap.size + 1) M' M' Y) := RowAt.ownN hrow (by omega) HM0.out (by have := HG'.out.2.2.1; omega)
  obtain ⟨g, hg⟩ : ∃ g, v3.heap.size + 1 = g := ⟨_, rfl⟩
  rw [hg] at HO4 ⊢
  have hg2 := HO4.out.ge
  clear hbc HK3 hrow HG' hz3 hg
  go_wp2_with fail
  refine hJ.out _ _ (kp_conj HK4.out) (fun hHeld4 => ?_)
  clear hJ J hHeld3
  try simp only [Act.put, List.setIfInBounds_toArray, List.set_cons_zero, List.set_cons_succ, List.getElem_toArray, List.getElem_cons_zero, List.getElem_cons_succ]
  refine wpAnyH_take (i := 10) (v := ?_) rfl (by kernel_rfl) (by kernel_rfl) (by kernel_rfl) (fun _ _ _ h => h) (Or.inl ⟨by rfl, ?_⟩) (by assumption) ?_
  rotate_left
  · intro w_ hSw; (try dsimp only at hSw); go_simp <;> with_reducible rfl
  try simp only [Act.put, List.setIfInBounds_toArray, List.set_cons_zero, List.set_cons_succ, List.getElem_toArray, List.getElem_cons_zero, List.getElem_cons_succ]
  refine wpAnyH_ready (rs := [11]) (by kernel_rfl) (by simp) ?_
  refine AllReadyH.cons rfl (fun J hJ => ?_) AllReadyH.nil
  have kz := row2_cells HK4.out.2.1
  go_simp
  have hput1 : PutG v4 (v4.setCell ⟨w.heap.size + 1, 0, none⟩ (.slice (some ⟨g, 0, none⟩) M' M')) (w.heap.size + 1) (.cells #[.slice (some ⟨g, 0, none⟩) M' M', .int .i64 0] 30) := putG_set HK4.out.2.1
  have hput2 : PutG (v4.setCell ⟨w.heap.size + 1, 0, none⟩ (.slice (some ⟨g, 0, none⟩) M' M')) ((v4.setCell ⟨w.heap.size + 1, 0, none⟩ (.slice (some ⟨g, 0, none⟩) M' M')).setCell ⟨w.heap.size + 1, 1, none⟩ (.int .i64 al)) (w.heap.size + 1) (.cells #[.slice (some ⟨g, 0, none⟩) M' M', .int .i64 al] 30) := putG_set hput1.1
  have HK5 : Hid (KP2 w ((v4.setCell ⟨w.heap.size + 1, 0, none⟩ (.slice (some ⟨g, 0, none⟩) M' M')).setCell ⟨w.heap.size + 1, 1, none⟩ (.int .i64 al)) (.cells #[.slice a n cap, .int .i64 al] 30) (.cells #[.slice (some ⟨g, 0, none⟩) M' M', .int .i64 al] 30)) := ⟨hput2.far (hput1.far HK4.out.1 (by omega)) (by omega), hput2.1, hput2.2.2.2 _ _ (Nat.le_succ _) (hput1.2.2.2 _ _ (Nat.le_succ _) HK4.out.2.2)⟩
  have HO5 : Hid (OwnN ((v4.setCell ⟨w.heap.size + 1, 0, none⟩ (.slice (some ⟨g, 0, none⟩) M' M')).setCell ⟨w.heap.size + 1, 1, none⟩ (.int .i64 al)) (w.heap.size + 2) g M' M' Y) := hput2.own (hput1.own HO4.out (by omega)) (by omega)
  refine hJ.out _ _ (kp_conj HK5.out) (fun hHeld5 => ?_)
  clear hJ J kz HK4 HO4 hput1 hput2 hHeld4
  try simp only [Act.put, List.setIfInBounds_toArray, List.set_cons_zero, List.set_cons_succ, List.getElem_toArray, List.getElem_cons_zero, List.getElem_cons_succ]
  generalize (v4.setCell ⟨w.heap.size + 1, 0, none⟩ (.slice (some ⟨g, 0, none⟩) M' M')).setCell ⟨w.heap.size + 1, 1, none⟩ (.int .i64 al) = w5 at *
  refine wpAnyH_done (by kernel_rfl) ?_ _
  clear hHeld5
  obtain ⟨z0, z1, _⟩ := row2_cells HK5.out.2.1
  go_wp2
  refine bodyPost_ret (v := .agg #[.slice (some ⟨g, 0, none⟩) M' M', .int .i64 al]) (by simp only [results, Tryz.results47]; simp [go_sem, z0, z1]) rfl ⟨g, M', rfl, HO5.out.mono (by omega), HK5.out.2.2⟩
end Go.Proofs.YtdifmjcghaoilaaGreatDoor.G

namespace Go.Proofs.YtdifmjcghaoilaaGreatDoor
open Go.RowKit Go.PlainAid
set_option linter.unusedVariables false
set_option linter.unusedSimpArgs false

set_option maxRecDepth 100000 in
set_option maxHeartbeats 1000000 in
theorem menunewS (w : World) : Calls Tryz.prog 31 #[] w fun e w' => e = .returned (mnV newM) ∧ Below w.heap.size w w' := by
  go_enter Tryz.func31, Tryz.ntmps31
  go_wp2
  refine bodyPost_ret (v := mnV newM) (by simp [results, Tryz.results31, go_sem, mnV, newM]) rfl ⟨rfl, ?_⟩
  first | exact alM _ _ | (repeat' (first | exact alM _ _ | refine Below.setCell ?_ (Nat.le_refl _) _))
theorem okM_at {m : Mn} (h : ¬ (1 ≤ m.a ∧ m.a ≤ 4)) : okM m = false := by
  cases e : okM m
  · rfl
  · exact absurd ((okM_iff m).1 e).1.1 h
theorem okM_n {m : Mn} (h : ¬ (0 ≤ m.n ∧ m.n ≤ 9999)) : okM m = false := by
  cases e : okM m
  · rfl
  · exact absurd ((okM_iff m).1 e).1.2.1 h
theorem okM_d {m : Mn} (h : ¬ (0 ≤ m.d ∧ m.d ≤ 9999)) : okM m = false := by
  cases e : okM m
  · rfl
  · exact absurd ((okM_iff m).1 e).1.2.2.1 h
theorem okM_l {m : Mn} (h : ¬ m.s.length ≤ 4) : okM m = false := by
  cases e : okM m
  · rfl
  · exact absurd ((okM_iff m).1 e).1.2.2.2 h
theorem okM_f {m : Mn} {k : Nat} (hk : k < m.s.length) (h : ¬ (48 ≤ (m.s[k].toNat : Int) ∧ (m.s[k].toNat : Int) ≤ 57)) : okM m = false := by
  cases e : okM m
  · rfl
  · exact absurd (of_decide_eq_true (((okM_iff m).1 e).2.1 _ (List.getElem_mem hk))) h
theorem okM_t {m : Mn} (h1 : m.a = 1) (h : ¬ (m.s = [] ∧ m.b = false ∧ m.n = 0 ∧ m.d = 0)) : okM m = false := by
  cases e : okM m
  · rfl
  · exact absurd (((okM_iff m).1 e).2.2 h1) h
def FigJ (s : List UInt8) (j : Nat) : Prop := ∀ k (h : k < s.length), k < j → figB s[k] = true
theorem figJ_zero (s : List UInt8) : FigJ s 0 := fun k _ h => by omega
theorem figJ_succ {s : List UInt8} {j : Nat} (h : FigJ s j) (hj : j < s.length) (hf : 48 ≤ (s[j].toNat : Int) ∧ (s[j].toNat : Int) ≤ 57) : FigJ s (j + 1) := fun k hk hlt => by
  rcases Nat.lt_or_ge k j with h1 | h1
  · exact h k hk h1
  · obtain rfl : k = j := by omega
    exact decide_eq_true hf
theorem figJ_all {s : List UInt8} {j : Nat} (h : FigJ s j) (hj : s.length ≤ j) : ∀ x ∈ s, figB x = true := fun x hx => by
  obtain ⟨k, hk, rfl⟩ := List.getElem_of_mem hx
  exact h k hk (by omega)
set_option maxRecDepth 100000 in
set_option maxHeartbeats 4000000 in
theorem menuokS (m : Mn) (B : Bool) (hB : okM m = B) (w : World) : Calls Tryz.prog 86 #[mnV m] w fun e w' => e = .returned (.bool B) ∧ Below w.heap.size w w' := by
  obtain ⟨a, b, n, d, s⟩ := m
  obtain ⟨S, hS⟩ : ∃ S : ByteArray, (⟨s.toArray⟩ : ByteArray) = S := ⟨_, rfl⟩
  unfold mnV
  dsimp only
  rw [hS]
  have hsz := txt_size hS
  have HBT : Hid (∀ k (h : k < s.length), bt S k = (s[k].toNat : Int)) := txt_bt hS
  have HNIL : Hid ((S.toList = []) ↔ s = []) := txt_nil hS
  have HO : Hid (okM ⟨a, b, n, d, s⟩ = B) := hB
  have HB : Hid (Below w.heap.size w (w.alloc (.cells #[.int .i64 a, .bool b, .int .i64 n, .int .i64 d, .string S] 32))) := alM _ _
  have HP : Hid ((w.alloc (.cells #[.int .i64 a, .bool b, .int .i64 n, .int .i64 d, .string S] 32)).heap[w.heap.size]? = some (.cells #[.int .i64 a, .bool b, .int .i64 n, .int .i64 d, .string S] 32)) := heap_new w _
  have p := box5_cells HP.out
  have hbt := get_bt S
  clear hS hB
  go_enter Tryz.func86, Tryz.ntmps86
  obtain ⟨B1, hB1⟩ : ∃ B1, decide (1 ≤ a ∧ a ≤ 4) = B1 := ⟨_, rfl⟩
  have H1 : Hid (decide (1 ≤ a ∧ a ≤ 4) = B1) := hB1
  clear hB1
  go_wp2_with fail
  refine (inS 1 4 a B1 H1.out _).mono ?_
  rintro e W ⟨rfl, hW⟩
  have HB1 : Hid (Below w.heap.size w W) := by rw [hW]; exact HB.out
  have HP1 : Hid (W.heap[w.heap.size]? = some (.cells #[.int .i64 a, .bool b, .int .i64 n, .int .i64 d, .string S] 32)) := by rw [hW]; exact HP.out
  have p1 := box5_cells HP1.out
  clear hW HB HP p
  cases B1
  · obtain rfl : false = B := by rw [← HO.out]; exact (okM_at (of_decide_eq_false H1.out)).symm
    go_wp2
    go_ret
    exact ⟨rfl, HB1.out⟩
  have h1 := of_decide_eq_true H1.out
  clear H1
  by_cases h2 : 0 ≤ n ∧ n ≤ 9999
  case neg =>
    obtain rfl : false = B := by rw [← HO.out]; exact (okM_n h2).symm
    go_wp2_with fail
    refine (inS 0 9999 n false (decide_eq_false h2) _).mono ?_
    rintro e w1 ⟨rfl, hw⟩
    obtain rfl : W = w1 := hw.symm
    go_wp2
    go_ret
    exact ⟨rfl, HB1.out⟩
  go_wp2_with fail
  refine (inS 0 9999 n true (decide_eq_true h2) _).mono ?_
  rintro e w1 ⟨rfl, hw⟩
  obtain rfl : W = w1 := hw.symm
  by_cases h3 : 0 ≤ d ∧ d ≤ 9999
  case neg =>
    obtain rfl : false = B := by rw [← HO.out]; exact (okM_d h3).symm
    go_wp2_with fail
    refine (inS 0 9999 d false (decide_eq_false h3) _).mono ?_
    rintro e w1 ⟨rfl, hw⟩
    obtain rfl : W = w1 := hw.symm
    go_wp2
    go_ret
    exact ⟨rfl, HB1.out⟩
  go_wp2_with fail
  refine (inS 0 9999 d true (decide_eq_true h3) _).mono ?_
  rintro e w1 ⟨rfl, hw⟩
  obtain rfl : W = w1 := hw.symm
  by_cases h4 : S.size ≤ 4
  case neg =>
    obtain rfl : false = B := by rw [← HO.out]; exact (okM_l (by show ¬ s.length ≤ 4; omega)).symm
    have h4' : (4 : Int) < S.size := by omega
    go_wp2
    go_ret
    exact ⟨rfl, HB1.out⟩
  have h4' : ¬ (4 : Int) < S.size := by omega
  have HA : Hid ((1 ≤ a ∧ a ≤ 4) ∧ (0 ≤ n ∧ n ≤ 9999) ∧ (0 ≤ d ∧ d ≤ 9999) ∧ s.length ≤ 4) := ⟨h1, h2, h3, by omega⟩
  clear h1 h2 h3
  go_wp2
  go_loopg [3] S.size (fun gk i wr => ∃ j : Nat, j + gk = S.size ∧ i = .int .i64 j ∧ Hid (FigJ s j) ∧ wr = W)
  case atStart => exact ⟨0, by omega, rfl, figJ_zero s, rfl⟩
  case round =>
    obtain ⟨j, hj, rfl, HI, rfl⟩ := hrel
    by_cases hlt : j < S.size
    · have hjl : j < s.length := by omega
      have hb0 := HBT.out j hjl
      have b0 := bt_nonneg S j
      have b1 := bt_le S j
      by_cases hf : 48 ≤ bt S j ∧ bt S j ≤ 57
      · have HI' : Hid (FigJ s (j + 1)) := figJ_succ HI.out hjl (by rw [← hb0]; exact hf)
        have f0 : ¬ bt S j < 48 := by omega
        have f1 : ¬ 57 < bt S j := by omega
        clear hb0 hf HI hjl
        go_wp2
        go_roundg (gk - 1)
        case measure => omega
        case rel => exact ⟨j + 1, by omega, by go_num, HI', rfl⟩
      · obtain rfl : false = B := by rw [← HO.out]; exact (okM_f (m := ⟨a, b, n, d, s⟩) hjl (by show ¬ (48 ≤ (s[j].toNat : Int) ∧ (s[j].toNat : Int) ≤ 57); rw [← hb0]; exact hf)).symm
        clear hb0 HI hjl
        by_cases f0 : bt S j < 48
        · go_wp2
          go_ret
          exact ⟨rfl, HB1.out⟩
        · have f1 : 57 < bt S j := by omega
          go_wp2
          go_ret
          exact ⟨rfl, HB1.out⟩
    · have HF : Hid (∀ x ∈ s, figB x = true) := figJ_all HI.out (by omega)
      clear HI
      by_cases a1 : a = 1
      case neg =>
        obtain rfl : true = B := by rw [← HO.out]; exact ((okM_iff _).2 ⟨HA.out, HF.out, fun e => absurd e a1⟩).symm
        have q1 : (a != 1) = true := by simpa using a1
        go_wp2
        go_ret
        exact ⟨rfl, HB1.out⟩
      subst a1
      by_cases hs : S.toList = []
      case neg =>
        obtain rfl : false = B := by rw [← HO.out]; exact (okM_t rfl (fun h => hs (HNIL.out.2 h.1))).symm
        go_wp2
        go_ret
        exact ⟨rfl, HB1.out⟩
      have HS : Hid (s = []) := HNIL.out.1 hs
      cases b
      case true =>
        obtain rfl : false = B := by rw [← HO.out]; exact (okM_t rfl (fun h => by cases h.2.1)).symm
        go_wp2
        go_ret
        exact ⟨rfl, HB1.out⟩
      by_cases hn : n = 0
      case neg =>
        obtain rfl : false = B := by rw [← HO.out]; exact (okM_t rfl (fun h => hn h.2.2.1)).symm
        have q3 : (n == 0) = false := by simpa using hn
        go_wp2
        go_ret
        exact ⟨rfl, HB1.out⟩
      by_cases hd : d = 0
      case neg =>
        obtain rfl : false = B := by rw [← HO.out]; exact (okM_t rfl (fun h => hd h.2.2.2)).symm
        subst hn
        have q4 : (d == 0) = false := by simpa using hd
        go_wp2
        go_ret
        exact ⟨rfl, HB1.out⟩
      obtain rfl : true = B := by rw [← HO.out]; exact ((okM_iff _).2 ⟨HA.out, HF.out, fun e => ⟨HS.out, rfl, hn, hd⟩⟩).symm
      subst hn
      subst hd
      go_wp2
      go_ret
      exact ⟨rfl, HB1.out⟩
def numJ (s : List UInt8) (j : Nat) : Int := numF (s.take j)
theorem numJ_succ {s : List UInt8} {j : Nat} (h : j < s.length) : numJ s (j + 1) = 10 * numJ s j + (s[j].toNat : Int) - 48 := by
  unfold numJ numF
  rw [← List.take_append_getElem h, List.foldl_append]
  rfl
theorem numJ_bd {s : List UInt8} (hf : ∀ x ∈ s, figB x = true) (hl : s.length ≤ 4) (j : Nat) : 0 ≤ numJ s j ∧ numJ s j ≤ 9999 := numF_bd (fun x hx => hf x (List.mem_of_mem_take hx)) (by simp; omega)
set_option maxRecDepth 100000 in
set_option maxHeartbeats 2000000 in
theorem numS (s : List UInt8) (z : Int) (hz : numF s = z) (hf : ∀ x ∈ s, figB x = true) (hl : s.length ≤ 4) (w : World) : Calls Tryz.prog 88 #[.string ⟨s.toArray⟩] w fun e w' => e = .returned (.int .i64 z) ∧ w' = w := by
  obtain ⟨S, hS⟩ : ∃ S : ByteArray, (⟨s.toArray⟩ : ByteArray) = S := ⟨_, rfl⟩
  rw [hS]
  have hsz := txt_size hS
  have HBT : Hid (∀ k (h : k < s.length), bt S k = (s[k].toNat : Int)) := txt_bt hS
  have HF : Hid (∀ x ∈ s, figB x = true) := hf
  have HZ : Hid (numF s = z) := hz
  have hbt := get_bt S
  clear hS hf hz
  go_enter Tryz.func88, Tryz.ntmps88
  go_wp2
  go_loopg [3, 4] S.size (fun gk v i wr => ∃ (j : Nat) (t : Int), j + gk = S.size ∧ v = .int .i64 t ∧ i = .int .i64 j ∧ Hid (t = numJ s j) ∧ wr = w)
  case atStart => exact ⟨0, 0, by omega, rfl, rfl, rfl, rfl⟩
  case round =>
    obtain ⟨j, t, hj, rfl, rfl, HT, rfl⟩ := hrel
    by_cases hlt : j < S.size
    · have hjl : j < s.length := by omega
      have hb0 := HBT.out j hjl
      have hfj : 48 ≤ bt S j ∧ bt S j ≤ 57 := by rw [hb0]; exact of_decide_eq_true (HF.out _ (List.getElem_mem hjl))
      have ht := numJ_bd HF.out hl j
      rw [← HT.out] at ht
      obtain ⟨u, hu⟩ : ∃ u, 10 * t + (bt S j - 48) = u := ⟨_, rfl⟩
      have HU : Hid (u = numJ s (j + 1)) := by show _ = _; rw [numJ_succ hjl, ← HT.out, ← hb0]; omega
      have q1 : IntKind.u8.wrap (bt S j - 48) = bt S j - 48 := by rw [IntKind.wrap_u8]; omega
      have q2 : IntKind.i64.wrap (10 * t) = 10 * t := wrap_in (by omega) (by omega)
      have q2' : wrap64 (10 * t) = 10 * t := wrap64_in (by omega) (by omega)
      have q3 : IntKind.i64.wrap (bt S j - 48) = bt S j - 48 := wrap_in (by omega) (by omega)
      have q4 : IntKind.i64.wrap (10 * t + (bt S j - 48)) = u := by rw [hu]; exact wrap_in (by omega) (by omega)
      have q5 : wrap64 u = u := wrap64_in (by omega) (by omega)
      clear hb0 hfj ht HT hjl
      go_wp2
      go_roundg (gk - 1)
      case measure => omega
      case rel => exact ⟨j + 1, u, by omega, (by first | rfl | rw [q5]), by go_num, HU, rfl⟩
    · have HE : Hid (t = z) := by show _ = _; rw [HT.out, ← HZ.out]; unfold numJ; rw [List.take_of_length_le (by omega)]
      clear HT
      go_wp2
      go_ret
      exact ⟨by rw [HE.out]; rfl, rfl⟩
end Go.Proofs.YtdifmjcghaoilaaGreatDoor

namespace Go.Proofs.YtdifmjcghaoilaaGreatDoor
open Go.RowKit Go.PlainAid
set_option linter.unusedVariables false
set_option linter.unusedSimpArgs false

theorem box17_cells {w : World} {k : Nat} {t : TypeId} {u0 u1 u2 u3 u4 u5 u6 u7 u8 u9 u10 u11 u12 u13 u14 u15 u16 : Value} (h : w.heap[k]? = some (.cells #[u0, u1, u2, u3, u4, u5, u6, u7, u8, u9, u10, u11, u12, u13, u14, u15, u16] t)) : w.cell? ⟨k, 0, none⟩ = some u0 ∧ w.cell? ⟨k, 1, none⟩ = some u1 ∧ w.cell? ⟨k, 2, none⟩ = some u2 ∧ w.cell? ⟨k, 3, none⟩ = some u3 ∧ w.cell? ⟨k, 4, none⟩ = some u4 ∧ w.cell? ⟨k, 5, none⟩ = some u5 ∧ w.cell? ⟨k, 6, none⟩ = some u6 ∧ w.cell? ⟨k, 7, none⟩ = some u7 ∧ w.cell? ⟨k, 8, none⟩ = some u8 ∧ w.cell? ⟨k, 9, none⟩ = some u9 ∧ w.cell? ⟨k, 10, none⟩ = some u10 ∧ w.cell? ⟨k, 11, none⟩ = some u11 ∧ w.cell? ⟨k, 12, none⟩ = some u12 ∧ w.cell? ⟨k, 13, none⟩ = some u13 ∧ w.cell? ⟨k, 14, none⟩ = some u14 ∧ w.cell? ⟨k, 15, none⟩ = some u15 ∧ w.cell? ⟨k, 16, none⟩ = some u16 := by
  refine ⟨?_, ?_, ?_, ?_, ?_, ?_, ?_, ?_, ?_, ?_, ?_, ?_, ?_, ?_, ?_, ?_, ?_⟩ <;> simp [World.cell?, h]
def devB (P Q M : Bool) (tn : Nat) (rf : Int) : Bool := P && Q && M && decide ((tn : Int) ≤ 200) && decide (0 ≤ rf ∧ rf ≤ 1000000000)
end Go.Proofs.YtdifmjcghaoilaaGreatDoor

namespace Go.Proofs.YtdifmjcghaoilaaGreatDoor
open Go.RowKit Go.PlainAid
set_option linter.unusedVariables false
set_option linter.unusedSimpArgs false

theorem al_at (w : World) (o : Obj) {k : Nat} (h : w.heap.size = k) : (w.alloc o).heap[k]? = some o := by subst h; exact heap_new w o
theorem set_rowP {w : World} {k : Nat} {T : TypeId} {a : Array Value} (h : w.heap[k]? = some (.cells a T)) (i : Nat) (x : Value) : (w.setCell ⟨k, i, none⟩ x).heap[k]? = some (.cells (a.setIfInBounds i x) T) := heap_setCell_same w k i _ _ x h
theorem set_farP {w : World} {k g i : Nat} {o : Obj} {x : Value} (h : w.heap[g]? = some o) (hne : g ≠ k) : (w.setCell ⟨k, i, none⟩ x).heap[g]? = some o := (Below.heap_setCell _ _ _ _ hne).trans h
theorem le2 (n : Nat) : n ≤ n + 1 + 1 := by omega
/-- eight numbers stored into a pump's row, as one -/
theorem listStoreP {ops : Array Oper} {rest : List Oper} {o : Oper} {a : Act} {Q : Exit → Act → World → Prop} {w : World} (hgd : o.guard = none) (hd : o.dst = none) (x y : Operand) (ty : TypeId) (ho : o.op = .store ty x y) (hty : ty = 27)
    (g : Nat) (z0 z1 z2 z3 z4 z5 z6 z7 : Int) (hx : a.eval x = .pointer (some ⟨g, 0, none⟩)) (hy : a.eval y = PV z0 z1 z2 z3 z4 z5 z6 z7)
    {u0 u1 u2 u3 u4 u5 u6 u7 : Value} (hg : w.heap[g]? = some (.cells #[u0, u1, u2, u3, u4, u5, u6, u7] 27))
    (h : ∀ w' : World, w'.heap[g]? = some (PB z0 z1 z2 z3 z4 z5 z6 z7) → (∀ k, k ≠ g → w'.heap[k]? = w.heap[k]?) → w'.heap.size = w.heap.size → (∀ B W, B ≤ g → Below B W w → Below B W w') → wpList Tryz.prog ops Q rest a w') : wpList Tryz.prog ops Q (o :: rest) a w := by
  subst hty
  refine wpList_store_rowTo hgd _ x y ho hd g _ hx hy _ _ hg (by kernel_rfl) rfl (by kernel_rfl) ?_
  refine h _ (setRow_heap w g _ _ _ _ hg) (fun k hk => setRow_other w g k _ hk) (setRow_size w g _) (fun B W hB hb => ?_)
  exact ⟨hb.os, hb.tape, hb.output, by rw [setRow_size]; exact hb.size, fun k hk => by rw [setRow_other w g k _ (by omega)]; exact hb.block k hk⟩
theorem storeC_run {w : World} {g i : Nat} {z : Int} {cs : Array Value} {T : TypeId} (hg : w.heap[g]? = some (.cells cs T)) (hi : i < cs.size) : (Instr.storeAt 3 (.pointer (some ⟨g, i, none⟩)) (.int .i64 z)).run Tryz.prog w = .ok () (w.setCell ⟨g, i, none⟩ (.int .i64 z)) := by
  have k1 : w.cell? ⟨g, i, none⟩ = some cs[i] := by simp [World.cell?, hg, hi]
  have k2 : w.frozen? ⟨g, i, none⟩ = false := by simp [World.frozen?, hg]
  simp [go_sem, Instr.storeAt, k1, k2]
theorem storeR_run {w : World} {g : Nat} {z0 z1 z2 : Int} {u0 u1 u2 u3 u4 u5 u6 u7 : Value} {T : TypeId} (hg : w.heap[g]? = some (.cells #[u0, u1, u2, u3, u4, u5, u6, u7] T)) :
    (Instr.storeAt 25 (.pointer (some ⟨g, 1, none⟩)) (.agg #[.int .i64 z0, .int .i64 z1, .int .i64 z2])).run Tryz.prog w = .ok () (((w.setCell ⟨g, 1, none⟩ (.int .i64 z0)).setCell ⟨g, 2, none⟩ (.int .i64 z1)).setCell ⟨g, 3, none⟩ (.int .i64 z2)) := by
  have k := box8_cells hg
  simp [go_sem, Instr.storeAt, k]
theorem bel_put {w W : World} {B g i : Nat} {v : Value} (h : Below B W w) (hB : B ≤ g) : Below B W (w.setCell ⟨g, i, none⟩ v) := h.setCell hB _
/-- one number stored into a row -/
theorem listStoreC {ops : Array Oper} {rest : List Oper} {o : Oper} {a : Act} {Q : Exit → Act → World → Prop} {w : World} (hgd : o.guard = none) (hd : o.dst = none) (x y : Operand) (ty : TypeId) (ho : o.op = .store ty x y) (hty : ty = 3)
    (g i : Nat) (z : Int) (hx : a.eval x = .pointer (some ⟨g, i, none⟩)) (hy : a.eval y = .int .i64 z)
    {cs : Array Value} {T : TypeId} (hg : w.heap[g]? = some (.cells cs T)) (hi : i < cs.size)
    (h : ∀ w' : World, w'.heap[g]? = some (.cells (cs.setIfInBounds i (.int .i64 z)) T) → (∀ k, k ≠ g → w'.heap[k]? = w.heap[k]?) → w'.heap.size = w.heap.size → (∀ B W, B ≤ g → Below B W w → Below B W w') → wpList Tryz.prog ops Q rest a w') : wpList Tryz.prog ops Q (o :: rest) a w := by
  subst hty
  refine wpList_plain hgd fun _ hK => ?_
  unfold Oper.wp
  simp only [execOp, ho, hx, hy, Sem.run_bind, storeC_run hg hi, Result.andThen, Sem.run_pure]
  exact hK _ _ (by rw [hd]; exact h _ (set_rowP hg i _) (fun k hk => Below.heap_setCell _ _ _ _ hk) (by simp) (fun B W hB hb => hb.setCell hB _))
/-- a rate stored into a pump's row -/
theorem listStoreR {ops : Array Oper} {rest : List Oper} {o : Oper} {a : Act} {Q : Exit → Act → World → Prop} {w : World} (hgd : o.guard = none) (hd : o.dst = none) (x y : Operand) (ty : TypeId) (ho : o.op = .store ty x y) (hty : ty = 25)
    (g : Nat) (z0 z1 z2 : Int) (hx : a.eval x = .pointer (some ⟨g, 1, none⟩)) (hy : a.eval y = .agg #[.int .i64 z0, .int .i64 z1, .int .i64 z2])
    {u0 u1 u2 u3 u4 u5 u6 u7 : Value} {T : TypeId} (hg : w.heap[g]? = some (.cells #[u0, u1, u2, u3, u4, u5, u6, u7] T))
    (h : ∀ w' : World, w'.heap[g]? = some (.cells #[u0, .int .i64 z0, .int .i64 z1, .int .i64 z2, u4, u5, u6, u7] T) → (∀ k, k ≠ g → w'.heap[k]? = w.heap[k]?) → w'.heap.size = w.heap.size → (∀ B W, B ≤ g → Below B W w → Below B W w') → wpList Tryz.prog ops Q rest a w') : wpList Tryz.prog ops Q (o :: rest) a w := by
  subst hty
  refine wpList_plain hgd fun _ hK => ?_
  unfold Oper.wp
  simp only [execOp, ho, hx, hy, Sem.run_bind, storeR_run hg, Result.andThen, Sem.run_pure]
  exact hK _ _ (by rw [hd]; exact h _ (set_rowP (set_rowP (set_rowP hg 1 _) 2 _) 3 _) (fun k hk => (Below.heap_setCell _ _ _ _ hk).trans ((Below.heap_setCell _ _ _ _ hk).trans (Below.heap_setCell _ _ _ _ hk))) (by simp) (fun B W hB hb => ((hb.setCell hB _).setCell hB _).setCell hB _))
end Go.Proofs.YtdifmjcghaoilaaGreatDoor

namespace Go.Proofs.YtdifmjcghaoilaaGreatDoor
open Go.RowKit Go.PlainAid
set_option linter.unusedVariables false
set_option linter.unusedSimpArgs false

set_option maxRecDepth 100000 in
set_option maxHeartbeats 4000000 in
theorem topS (m : Mn) (key : Int) (r : Pr) (hr : topM m key = r) (w : World) : Calls Tryz.prog 87 #[mnV m, .int .i64 key] w fun e w' => e = .returned (.tuple #[mnV r.m, ordV r.k r.n r.d r.v, .bool r.t]) ∧ Below w.heap.size w w' := by
  obtain ⟨a, b, n, d, s⟩ := m
  obtain ⟨S, hS⟩ : ∃ S : ByteArray, (⟨s.toArray⟩ : ByteArray) = S := ⟨_, rfl⟩
  obtain ⟨h1, h2, h3, h4, h5⟩ := box3m w (.cells #[.int .i64 a, .bool b, .int .i64 n, .int .i64 d, .string S] 32) (.cells #[.int .i64 0, .bool false, .int .i64 0, .int .i64 0, .string ⟨#[]⟩] 32) (.cells #[.int .i64 0, .int .i64 0, .int .i64 0, .int .i64 0] 82)
  have HP0 : Hid (_ = _) := h1
  have HZ0 : Hid (_ = _) := h2
  have HO0 : Hid (_ = _) := h3
  have HB0 : Hid (Below _ _ _) := h4
  have p0 := box5_cells h1
  clear h1 h2 h3 h4 h5
  unfold mnV ordV
  dsimp only
  rw [hS]
  have HR : Hid (topM ⟨a, b, n, d, s⟩ key = r) := hr
  clear hr
  go_enter Tryz.func87, Tryz.ntmps87
  by_cases k98 : key = 98
  · obtain rfl : noP ⟨2, false, 0, 0, []⟩ = r := by rw [← HR.out]; unfold topM; simp [k98]
    clear HR
    subst k98
    dsimp only [noP]
    try rw [hS]
    clear hS
    go_upto_region 3 with fail
    go_wp2_with (refine listStoreM rfl rfl _ _ _ rfl rfl (w.heap.size + 1) (2) (false) (0) (0) (⟨#[]⟩) rfl rfl HZ0.out ?_)
    intro w8 hput
    have HB8 : Hid (Below w.heap.size w w8) := hput.2.2.2 _ _ (Nat.le_succ _) HB0.out
    have HO8 : Hid (w8.heap[w.heap.size + 2]? = some (.cells #[.int .i64 0, .int .i64 0, .int .i64 0, .int .i64 0] 82)) := hput.far HO0.out (by omega)
    have HZ8 : Hid (w8.heap[w.heap.size + 1]? = some (.cells #[.int .i64 2, .bool false, .int .i64 0, .int .i64 0, .string ⟨#[]⟩] 32)) := hput.1
    clear hput
    go_wp2_with (refine listStoreO rfl rfl _ _ _ rfl rfl (w.heap.size + 2) (0) (0) (0) (0) rfl rfl HO8.out ?_)
    intro w9 hput
    have HB9 : Hid (Below w.heap.size w w9) := hput.2.2.2 _ _ (by omega) HB8.out
    have zz := box5_cells (hput.far HZ8.out (by omega))
    have yy := box4_cells hput.1
    clear hput HB8 HO8 HZ8
    go_wp2
    refine bodyPost_ret (v := .tuple #[.agg #[.int .i64 2, .bool false, .int .i64 0, .int .i64 0, .string ⟨#[]⟩], .agg #[.int .i64 0, .int .i64 0, .int .i64 0, .int .i64 0], .bool false]) (by simp only [results, Tryz.results87]; simp [go_sem, zz, yy]) rfl ⟨rfl, HB9.out⟩
  have q98 : (key == 98) = false := by simpa using k98
  by_cases k111 : key = 111
  · obtain rfl : noP ⟨4, true, 0, 0, []⟩ = r := by rw [← HR.out]; unfold topM; simp [k111]
    clear HR
    subst k111
    dsimp only [noP]
    try rw [hS]
    clear hS
    go_upto_region 5 with fail
    go_wp2_with (refine listStoreM rfl rfl _ _ _ rfl rfl (w.heap.size + 1) (4) (true) (0) (0) (⟨#[]⟩) rfl rfl HZ0.out ?_)
    intro w8 hput
    have HB8 : Hid (Below w.heap.size w w8) := hput.2.2.2 _ _ (Nat.le_succ _) HB0.out
    have HO8 : Hid (w8.heap[w.heap.size + 2]? = some (.cells #[.int .i64 0, .int .i64 0, .int .i64 0, .int .i64 0] 82)) := hput.far HO0.out (by omega)
    have HZ8 : Hid (w8.heap[w.heap.size + 1]? = some (.cells #[.int .i64 4, .bool true, .int .i64 0, .int .i64 0, .string ⟨#[]⟩] 32)) := hput.1
    clear hput
    go_wp2_with (refine listStoreO rfl rfl _ _ _ rfl rfl (w.heap.size + 2) (0) (0) (0) (0) rfl rfl HO8.out ?_)
    intro w9 hput
    have HB9 : Hid (Below w.heap.size w w9) := hput.2.2.2 _ _ (by omega) HB8.out
    have zz := box5_cells (hput.far HZ8.out (by omega))
    have yy := box4_cells hput.1
    clear hput HB8 HO8 HZ8
    go_wp2
    refine bodyPost_ret (v := .tuple #[.agg #[.int .i64 4, .bool true, .int .i64 0, .int .i64 0, .string ⟨#[]⟩], .agg #[.int .i64 0, .int .i64 0, .int .i64 0, .int .i64 0], .bool false]) (by simp only [results, Tryz.results87]; simp [go_sem, zz, yy]) rfl ⟨rfl, HB9.out⟩
  have q111 : (key == 111) = false := by simpa using k111
  by_cases k112 : key = 112
  · obtain rfl : ⟨⟨a, b, n, d, s⟩, 3, 0, 0, 0, true⟩ = r := by rw [← HR.out]; unfold topM; simp [k112]
    clear HR
    subst k112
    dsimp only [noP]
    try rw [hS]
    clear hS
    go_upto_region 7 with fail
    go_wp2_with (refine listStoreM rfl rfl _ _ _ rfl rfl (w.heap.size + 1) (a) (b) (n) (d) (S) rfl rfl HZ0.out ?_)
    intro w8 hput
    have HB8 : Hid (Below w.heap.size w w8) := hput.2.2.2 _ _ (Nat.le_succ _) HB0.out
    have HO8 : Hid (w8.heap[w.heap.size + 2]? = some (.cells #[.int .i64 0, .int .i64 0, .int .i64 0, .int .i64 0] 82)) := hput.far HO0.out (by omega)
    have HZ8 : Hid (w8.heap[w.heap.size + 1]? = some (.cells #[.int .i64 a, .bool b, .int .i64 n, .int .i64 d, .string S] 32)) := hput.1
    clear hput
    go_wp2_with (refine listStoreO rfl rfl _ _ _ rfl rfl (w.heap.size + 2) (3) (0) (0) (0) rfl rfl HO8.out ?_)
    intro w9 hput
    have HB9 : Hid (Below w.heap.size w w9) := hput.2.2.2 _ _ (by omega) HB8.out
    have zz := box5_cells (hput.far HZ8.out (by omega))
    have yy := box4_cells hput.1
    clear hput HB8 HO8 HZ8
    go_wp2
    refine bodyPost_ret (v := .tuple #[.agg #[.int .i64 a, .bool b, .int .i64 n, .int .i64 d, .string S], .agg #[.int .i64 3, .int .i64 0, .int .i64 0, .int .i64 0], .bool true]) (by simp only [results, Tryz.results87]; simp [go_sem, zz, yy]) rfl ⟨rfl, HB9.out⟩
  have q112 : (key == 112) = false := by simpa using k112
  by_cases k103 : key = 103
  · obtain rfl : ⟨⟨a, b, n, d, s⟩, 4, 0, 0, 0, true⟩ = r := by rw [← HR.out]; unfold topM; simp [k103]
    clear HR
    subst k103
    dsimp only [noP]
    try rw [hS]
    clear hS
    go_upto_region 9 with fail
    go_wp2_with (refine listStoreM rfl rfl _ _ _ rfl rfl (w.heap.size + 1) (a) (b) (n) (d) (S) rfl rfl HZ0.out ?_)
    intro w8 hput
    have HB8 : Hid (Below w.heap.size w w8) := hput.2.2.2 _ _ (Nat.le_succ _) HB0.out
    have HO8 : Hid (w8.heap[w.heap.size + 2]? = some (.cells #[.int .i64 0, .int .i64 0, .int .i64 0, .int .i64 0] 82)) := hput.far HO0.out (by omega)
    have HZ8 : Hid (w8.heap[w.heap.size + 1]? = some (.cells #[.int .i64 a, .bool b, .int .i64 n, .int .i64 d, .string S] 32)) := hput.1
    clear hput
    go_wp2_with (refine listStoreO rfl rfl _ _ _ rfl rfl (w.heap.size + 2) (4) (0) (0) (0) rfl rfl HO8.out ?_)
    intro w9 hput
    have HB9 : Hid (Below w.heap.size w w9) := hput.2.2.2 _ _ (by omega) HB8.out
    have zz := box5_cells (hput.far HZ8.out (by omega))
    have yy := box4_cells hput.1
    clear hput HB8 HO8 HZ8
    go_wp2
    refine bodyPost_ret (v := .tuple #[.agg #[.int .i64 a, .bool b, .int .i64 n, .int .i64 d, .string S], .agg #[.int .i64 4, .int .i64 0, .int .i64 0, .int .i64 0], .bool true]) (by simp only [results, Tryz.results87]; simp [go_sem, zz, yy]) rfl ⟨rfl, HB9.out⟩
  have q103 : (key == 103) = false := by simpa using k103
  by_cases k115 : key = 115
  · obtain rfl : ⟨⟨a, b, n, d, s⟩, 5, 0, 0, 0, true⟩ = r := by rw [← HR.out]; unfold topM; simp [k115]
    clear HR
    subst k115
    dsimp only [noP]
    try rw [hS]
    clear hS
    go_upto_region 11 with fail
    go_wp2_with (refine listStoreM rfl rfl _ _ _ rfl rfl (w.heap.size + 1) (a) (b) (n) (d) (S) rfl rfl HZ0.out ?_)
    intro w8 hput
    have HB8 : Hid (Below w.heap.size w w8) := hput.2.2.2 _ _ (Nat.le_succ _) HB0.out
    have HO8 : Hid (w8.heap[w.heap.size + 2]? = some (.cells #[.int .i64 0, .int .i64 0, .int .i64 0, .int .i64 0] 82)) := hput.far HO0.out (by omega)
    have HZ8 : Hid (w8.heap[w.heap.size + 1]? = some (.cells #[.int .i64 a, .bool b, .int .i64 n, .int .i64 d, .string S] 32)) := hput.1
    clear hput
    go_wp2_with (refine listStoreO rfl rfl _ _ _ rfl rfl (w.heap.size + 2) (5) (0) (0) (0) rfl rfl HO8.out ?_)
    intro w9 hput
    have HB9 : Hid (Below w.heap.size w w9) := hput.2.2.2 _ _ (by omega) HB8.out
    have zz := box5_cells (hput.far HZ8.out (by omega))
    have yy := box4_cells hput.1
    clear hput HB8 HO8 HZ8
    go_wp2
    refine bodyPost_ret (v := .tuple #[.agg #[.int .i64 a, .bool b, .int .i64 n, .int .i64 d, .string S], .agg #[.int .i64 5, .int .i64 0, .int .i64 0, .int .i64 0], .bool true]) (by simp only [results, Tryz.results87]; simp [go_sem, zz, yy]) rfl ⟨rfl, HB9.out⟩
  have q115 : (key == 115) = false := by simpa using k115
  by_cases k120 : key = 120
  · obtain rfl : ⟨⟨a, b, n, d, s⟩, 6, 0, 0, 0, true⟩ = r := by rw [← HR.out]; unfold topM; simp [k120]
    clear HR
    subst k120
    dsimp only [noP]
    try rw [hS]
    clear hS
    go_upto_region 13 with fail
    go_wp2_with (refine listStoreM rfl rfl _ _ _ rfl rfl (w.heap.size + 1) (a) (b) (n) (d) (S) rfl rfl HZ0.out ?_)
    intro w8 hput
    have HB8 : Hid (Below w.heap.size w w8) := hput.2.2.2 _ _ (Nat.le_succ _) HB0.out
    have HO8 : Hid (w8.heap[w.heap.size + 2]? = some (.cells #[.int .i64 0, .int .i64 0, .int .i64 0, .int .i64 0] 82)) := hput.far HO0.out (by omega)
    have HZ8 : Hid (w8.heap[w.heap.size + 1]? = some (.cells #[.int .i64 a, .bool b, .int .i64 n, .int .i64 d, .string S] 32)) := hput.1
    clear hput
    go_wp2_with (refine listStoreO rfl rfl _ _ _ rfl rfl (w.heap.size + 2) (6) (0) (0) (0) rfl rfl HO8.out ?_)
    intro w9 hput
    have HB9 : Hid (Below w.heap.size w w9) := hput.2.2.2 _ _ (by omega) HB8.out
    have zz := box5_cells (hput.far HZ8.out (by omega))
    have yy := box4_cells hput.1
    clear hput HB8 HO8 HZ8
    go_wp2
    refine bodyPost_ret (v := .tuple #[.agg #[.int .i64 a, .bool b, .int .i64 n, .int .i64 d, .string S], .agg #[.int .i64 6, .int .i64 0, .int .i64 0, .int .i64 0], .bool true]) (by simp only [results, Tryz.results87]; simp [go_sem, zz, yy]) rfl ⟨rfl, HB9.out⟩
  have q120 : (key == 120) = false := by simpa using k120
  obtain rfl : noP ⟨a, b, n, d, s⟩ = r := by rw [← HR.out]; unfold topM; simp [k98, k111, k112, k103, k115, k120]
  clear HR k98 k111 k112 k103 k115 k120
  dsimp only [noP]
  rw [hS]
  clear hS
  go_upto_region 14 with fail
  go_wp2_with (refine listStoreM rfl rfl _ _ _ rfl rfl (w.heap.size + 1) (a) (b) (n) (d) (S) rfl rfl HZ0.out ?_)
  intro w8 hput
  have HB8 : Hid (Below w.heap.size w w8) := hput.2.2.2 _ _ (Nat.le_succ _) HB0.out
  have HO8 : Hid (w8.heap[w.heap.size + 2]? = some (.cells #[.int .i64 0, .int .i64 0, .int .i64 0, .int .i64 0] 82)) := hput.far HO0.out (by omega)
  have HZ8 : Hid (w8.heap[w.heap.size + 1]? = some (.cells #[.int .i64 a, .bool b, .int .i64 n, .int .i64 d, .string S] 32)) := hput.1
  clear hput
  go_wp2_with (refine listStoreO rfl rfl _ _ _ rfl rfl (w.heap.size + 2) (0) (0) (0) (0) rfl rfl HO8.out ?_)
  intro w9 hput
  have HB9 : Hid (Below w.heap.size w w9) := hput.2.2.2 _ _ (by omega) HB8.out
  have zz := box5_cells (hput.far HZ8.out (by omega))
  have yy := box4_cells hput.1
  clear hput HB8 HO8 HZ8
  go_wp2
  refine bodyPost_ret (v := .tuple #[.agg #[.int .i64 a, .bool b, .int .i64 n, .int .i64 d, .string S], .agg #[.int .i64 0, .int .i64 0, .int .i64 0, .int .i64 0], .bool false]) (by simp only [results, Tryz.results87]; simp [go_sem, zz, yy]) rfl ⟨rfl, HB9.out⟩
end Go.Proofs.YtdifmjcghaoilaaGreatDoor
