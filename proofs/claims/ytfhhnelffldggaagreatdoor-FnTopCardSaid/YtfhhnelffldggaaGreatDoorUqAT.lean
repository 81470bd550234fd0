/-
  Guards, in a namespace of their own.
-/
import Derived.Test.YtfhhnelffldggaaGreatDoorUqAS
import Derived.Test.YtfhhnelffldggaaGreatDoorUqAB
import Derived.Great.BuildSlice
import Derived.Deep.CutBlock
set_option maxRecDepth 100000
set_option maxHeartbeats 16000000
namespace Go.Proofs.YtfhhnelffldggaaGreatDoor.G
open Go.ChangeShapes Go.WideShapes Go.ChangeAt Go.RowKit Go.PlainAid
set_option linter.unusedVariables false
end Go.Proofs.YtfhhnelffldggaaGreatDoor.G
namespace Go.Proofs.YtfhhnelffldggaaGreatDoor.G.H
open Go.RowKit Go.PlainAid
set_option linter.unusedVariables false
theorem holdsI (l m n : Int) (b : Bool) (hb : decide (l ≤ n ∧ n ≤ m) = b) (w : World) : Calls Tryz.prog 111 #[.agg #[.int .i64 l, .int .i64 m], .int .i64 n] w fun e w' => e = .returned (.bool b) ∧ Below w.heap.size w w' := by
  go_enter Tryz.func111, Tryz.ntmps111
  by_cases h1 : l ≤ n
  · by_cases h2 : n ≤ m
    · go_wp2
      go_ret
      exact ⟨by rw [← hb, decide_eq_true ⟨h1, h2⟩]; rfl, (Below.refl _ _).alloc (Nat.le_refl _) _⟩
    · go_wp2
      go_ret
      exact ⟨by rw [← hb, decide_eq_false (fun h => by omega)]; rfl, (Below.refl _ _).alloc (Nat.le_refl _) _⟩
  · go_wp2
    go_ret
    exact ⟨by rw [← hb, decide_eq_false (fun h => by omega)]; rfl, (Below.refl _ _).alloc (Nat.le_refl _) _⟩
theorem inS (l m n : Int) (b : Bool) (hb : decide (l ≤ n ∧ n ≤ m) = b) (w : World) : Calls Tryz.prog 97 #[.int .i64 n, .int .i64 l, .int .i64 m] w fun e w' => e = .returned (.bool b) ∧ w' = w := by
  go_enter Tryz.func97, Tryz.ntmps97
  by_cases h1 : l ≤ n
  · by_cases h2 : n ≤ m
    · go_wp2
      go_ret
      exact ⟨by rw [← hb, decide_eq_true ⟨h1, h2⟩]; rfl, rfl⟩
    · go_wp2
      go_ret
      exact ⟨by rw [← hb, decide_eq_false (fun h => by omega)]; rfl, rfl⟩
  · go_wp2
    go_ret
    exact ⟨by rw [← hb, decide_eq_false (fun h => by omega)]; rfl, rfl⟩
theorem bel_on {w W W' : World} {B : Nat} (hB : B ≤ w.heap.size) (h : Below B w W) (hb : Below W.heap.size W W') : Below B w W' := h.trans (hb.mono (Nat.le_trans hB h.size))
theorem senseS (n : Int) (b : Bool) (hb : decide (0 ≤ n ∧ n ≤ 15) = b) (w : World) : Calls Tryz.prog 85 #[.int .i64 n] w fun e w' => e = .returned (.bool b) ∧ w' = w := by
  go_enter Tryz.func85, Tryz.ntmps85
  go_wp2_with fail
  refine (inS 0 15 n b hb _).mono ?_
  rintro e w1 ⟨rfl, rfl⟩
  go_wp2
  go_ret
  exact ⟨rfl, rfl⟩
theorem senseI (n : Int) (b : Bool) (hb : decide (0 ≤ n ∧ n ≤ 15) = b) (w : World) : Calls Tryz.prog 62 #[.int .i64 n] w fun e w' => e = .returned (.bool b) ∧ Below w.heap.size w w' := by
  go_enter Tryz.func62, Tryz.ntmps62
  go_wp2_with fail
  refine (holdsI 0 15 n b hb _).mono ?_
  rintro e w1 ⟨rfl, hb1⟩
  go_wp2
  go_ret
  exact ⟨rfl, hb1⟩
end Go.Proofs.YtfhhnelffldggaaGreatDoor.G.H
namespace Go.Proofs.YtfhhnelffldggaaGreatDoor.G
open Go.RowKit Go.PlainAid
set_option linter.unusedVariables false
set_option linter.unusedSimpArgs false
def sumN : List Int → Int
  | [] => 0
  | x :: l => x + sumN l
theorem sumN_app (l m : List Int) : sumN (l ++ m) = sumN l + sumN m := by
  induction l with
  | nil => simp [sumN]
  | cons x l ih => simp only [List.cons_append, sumN, ih]; omega
theorem sumN_take {l : List Int} {j : Nat} (h : j < l.length) : sumN (l.take (j + 1)) = sumN (l.take j) + l[j] := by
  rw [← List.take_append_getElem h, sumN_app]
  simp [sumN]
def sumW (l : List Int) : Int := IntKind.i64.wrap (sumN l)
theorem wrap_add (s x : Int) : IntKind.i64.wrap (IntKind.i64.wrap s + x) = IntKind.i64.wrap (s + x) := by
  rw [IntKind.wrap_i64, IntKind.wrap_i64, IntKind.wrap_i64]
  omega
theorem sumW_take {l : List Int} {j : Nat} (h : j < l.length) : IntKind.i64.wrap (sumW (l.take j) + l[j]) = sumW (l.take (j + 1)) := by
  unfold sumW
  rw [wrap_add, sumN_take h]
theorem sumW_zero (l : List Int) : sumW (l.take 0) = 0 := by
  unfold sumW
  rw [List.take_zero]
  exact wrap_in (by simp [sumN]) (by simp [sumN])
theorem sumW_all (l : List Int) : sumW (l.take l.length) = sumW l := by rw [List.take_length]
def AllG (l : List Int) (j : Nat) : Prop := ∀ i (h : i < l.length), i < j → 0 ≤ l[i] ∧ l[i] ≤ 30
theorem allG_zero (l : List Int) : AllG l 0 := fun i _ h => by omega
theorem allG_succ {l : List Int} {j : Nat} (h : AllG l j) (hj : j < l.length) (hr : 0 ≤ l[j] ∧ l[j] ≤ 30) : AllG l (j + 1) := fun i hi hlt => by
  rcases Nat.lt_or_ge i j with h1 | h1
  · exact h i hi h1
  · have : i = j := by omega
    subst this
    exact hr
def GdR (l : List Int) (al : Int) : Prop := l.length ≤ 9 ∧ (0 ≤ al ∧ al ≤ 15) ∧ (∀ i (h : i < l.length), 0 ≤ l[i] ∧ l[i] ≤ 30) ∧ sumN l ≤ 30
theorem sumN_bd {l : List Int} (h : ∀ i (h : i < l.length), 0 ≤ l[i] ∧ l[i] ≤ 30) : 0 ≤ sumN l ∧ sumN l ≤ 30 * l.length := by
  induction l with
  | nil => simp [sumN]
  | cons x l ih =>
    have h0 := h 0 (by simp)
    have h1 := ih (fun i hi => by have := h (i + 1) (by simp; omega); simpa using this)
    simp only [sumN, List.length_cons, List.getElem_cons_zero] at *
    omega
theorem sumW_in {l : List Int} (h : ∀ i (h : i < l.length), 0 ≤ l[i] ∧ l[i] ≤ 30) (hl : l.length ≤ 9) : sumW l = sumN l := by
  have := sumN_bd h
  unfold sumW
  exact wrap_in (by omega) (by omega)
theorem not_gd {l : List Int} {al : Int} {b : Bool} (hb : b = true ↔ GdR l al) (h : ¬ GdR l al) : b = false := by
  cases b
  · rfl
  · exact absurd (hb.1 rfl) h
theorem gd_end {l : List Int} {al : Int} {b : Bool} (hb : b = true ↔ GdR l al) (h1 : l.length ≤ 9) (h2 : 0 ≤ al ∧ al ≤ 15) (h3 : AllG l l.length) : decide (sumW l ≤ 30) = b := by
  have h3' : ∀ i (h : i < l.length), 0 ≤ l[i] ∧ l[i] ≤ 30 := fun i h => h3 i h h
  rw [sumW_in h3' h1]
  by_cases h : sumN l ≤ 30
  · rw [decide_eq_true h]; exact (hb.2 ⟨h1, h2, h3', h⟩).symm
  · rw [decide_eq_false h]; exact (not_gd hb (fun x => h x.2.2.2)).symm
theorem room_bd {l : List Int} {al : Int} (h : GdR l al) : IntKind.i64.wrap (30 - sumW l) = 30 - sumN l ∧ 0 ≤ 30 - sumN l ∧ 30 - sumN l ≤ 30 := by
  have h1 := sumN_bd h.2.2.1
  have h2 := h.2.2.2
  rw [sumW_in h.2.2.1 h.1]
  exact ⟨wrap_in (by omega) (by omega), by omega, by omega⟩
theorem sumS (a : Option Addr) (l : List Int) (n cap : Nat) (hl : l.length = n) (hn : n ≤ 9223372036854775807) (w : World) (hr : Rd w a l) :
    Calls Tryz.prog 151 #[.slice a n cap] w fun e w' => e = .returned (.int .i64 (sumW l)) ∧ w' = w := by
  have HL := hq hl
  have HR := hq hr
  clear hl hr
  go_enter Tryz.func151, Tryz.ntmps151
  go_wp2
  go_loopg [3, 4] n (fun gk s i wr => ∃ (j : Nat) (S : Int), j + gk = n ∧ i = .int .i64 j ∧ s = .int .i64 S ∧ Hid (S = sumW (l.take j)) ∧ wr = w)
  case atStart => exact ⟨0, 0, by omega, rfl, rfl, (sumW_zero l).symm, rfl⟩
  case round =>
    obtain ⟨j, S, hj, rfl, rfl, HS, rfl⟩ := hrel
    by_cases hlt : j < n
    · have hjl : j < l.length := by have := HL.out; omega
      obtain ⟨g, off, ha, hc⟩ := HR.out (by omega)
      subst ha
      have c1 := hc j hjl
      clear hc
      obtain ⟨x, hx⟩ : ∃ x, l[j] = x := ⟨_, rfl⟩
      rw [hx] at c1
      obtain ⟨T, hT⟩ : ∃ T, IntKind.i64.wrap (S + x) = T := ⟨_, rfl⟩
      have HT : Hid (T = sumW (l.take (j + 1))) := by show _ = _; rw [← hT, HS.out, ← hx]; exact sumW_take hjl
      clear hx HS
      go_wp2
      go_roundg (gk - 1)
      case measure => omega
      case rel => exact ⟨j + 1, T, by omega, by go_num, rfl, HT, rfl⟩
    · obtain rfl : j = n := by omega
      have HE : Hid (S = sumW l) := by show _ = _; rw [HS.out, ← HL.out]; exact sumW_all l
      clear HS
      go_wp2
      go_ret
      exact ⟨by rw [HE.out]; rfl, rfl⟩
theorem roomS (a : Option Addr) (al : Int) (l : List Int) (n cap : Nat) (R : Int) (hR : IntKind.i64.wrap (30 - sumW l) = R) (hl : l.length = n) (hn : n ≤ 9223372036854775807) (w : World) (hr : Rd w a l) :
    Calls Tryz.prog 109 #[.agg #[.slice a n cap, .int .i64 al]] w fun e w' => e = .returned (.int .i64 R) ∧ Below w.heap.size w w' := by
  obtain ⟨S, hS⟩ : ∃ S, sumW l = S := ⟨_, rfl⟩
  rw [hS] at hR
  have HS := hq hS
  have HB : Hid (Below w.heap.size w (w.alloc (.cells #[.slice a n cap, .int .i64 al] 32))) := (Below.refl _ _).alloc (Nat.le_refl _) _
  have HR : Hid (Rd (w.alloc (.cells #[.slice a n cap, .int .i64 al] 32)) a l) := hr.keep HB.out (Nat.le_refl _)
  have HL := hq hl
  clear hl hr hS
  go_enter Tryz.func109, Tryz.ntmps109
  go_wp2_with fail
  refine (sumS a l n cap HL.out hn _ HR.out).mono ?_
  rintro e w1 ⟨rfl, rfl⟩
  rw [HS.out]
  go_wp2
  go_ret
  exact ⟨rfl, HB.out⟩
theorem guardokS (a : Option Addr) (al : Int) (l : List Int) (n cap : Nat) (b : Bool) (hl : l.length = n) (hn : n ≤ 9223372036854775807) (hb : b = true ↔ GdR l al) (w : World) (hr : Rd w a l) :
    Calls Tryz.prog 95 #[.agg #[.slice a n cap, .int .i64 al]] w fun e w' => e = .returned (.bool b) ∧ Below w.heap.size w w' := by
  have HB := hq hb
  have HL := hq hl
  have HR := hq hr
  obtain ⟨h1, h2, h3⟩ := box2 w (.slice a n cap) (.int .i64 al) 32
  have HX := hq h1
  have HW0 := hq h2
  clear hb hl hr h1 h2 h3
  by_cases h9 : n ≤ 9
  case neg =>
    have HE : Hid (b = false) := not_gd HB.out (fun h => by have := h.1; have := HL.out; omega)
    have h9' : (9 : Int) < n := by omega
    go_enter Tryz.func95, Tryz.ntmps95
    go_wp2
    go_ret
    exact ⟨by rw [HE.out]; rfl, HW0.out⟩
  have h9' : ¬ (9 : Int) < n := by omega
  by_cases hal : 0 ≤ al ∧ al ≤ 15
  case neg =>
    have HE : Hid (b = false) := not_gd HB.out (fun h => hal h.2.1)
    have hd : decide ((0 : Int) ≤ al ∧ al ≤ 15) = false := decide_eq_false hal
    go_enter Tryz.func95, Tryz.ntmps95
    go_wp2_with fail
    refine (H.senseS al false hd _).mono ?_
    rintro e w1 ⟨rfl, rfl⟩
    go_wp2
    go_ret
    exact ⟨by rw [HE.out]; rfl, HW0.out⟩
  have HAL := hq hal
  have hd : decide ((0 : Int) ≤ al ∧ al ≤ 15) = true := decide_eq_true hal
  clear hal
  go_enter Tryz.func95, Tryz.ntmps95
  go_wp2_with fail
  refine (H.senseS al true hd _).mono ?_
  rintro e w1 ⟨rfl, rfl⟩
  clear hd
  go_wp2
  go_loopg [3] n (fun gk i wr => ∃ j : Nat, j + gk = n ∧ i = .int .i64 j ∧ Hid (AllG l j) ∧ Hid (Below w.heap.size w wr) ∧ Hid (wr.heap[w.heap.size]? = some (.cells #[.slice a n cap, .int .i64 al] 32)))
  case atStart => exact ⟨0, by omega, rfl, allG_zero l, HW0, HX⟩
  case round =>
    clear HW0 HX
    obtain ⟨j, hj, rfl, HI, HW, HX⟩ := hrel
    have k1 := row2_cells HX.out
    by_cases hlt : j < n
    · have hjl : j < l.length := by have := HL.out; omega
      obtain ⟨g, off, ha, hc⟩ := HR.out (by omega)
      subst ha
      have c1 := (HW.out.cell (p := ⟨g, off + j, none⟩) (World.block_lt_of_cell? w ⟨g, off + j, none⟩ (hc j hjl))).trans (hc j hjl)
      clear hc
      obtain ⟨x, hx⟩ : ∃ x, l[j] = x := ⟨_, rfl⟩
      rw [hx] at c1
      have HF := hq hx
      clear hx
      by_cases hf : 0 ≤ x ∧ x ≤ 30
      · have hd : decide ((0 : Int) ≤ x ∧ x ≤ 30) = true := decide_eq_true hf
        have HI' : Hid (AllG l (j + 1)) := allG_succ HI.out hjl (by rw [HF.out]; exact hf)
        clear hf HI
        go_wp2_with fail
        refine (inS 0 30 x true hd _).mono ?_
        rintro e w1 ⟨rfl, rfl⟩
        clear hd
        go_wp2
        go_roundg (gk - 1)
        case measure => omega
        case rel => exact ⟨j + 1, by omega, by go_num, HI', HW, HX⟩
      · have hd : decide ((0 : Int) ≤ x ∧ x ≤ 30) = false := decide_eq_false hf
        have HE : Hid (b = false) := not_gd HB.out (fun h => hf (by have := h.2.2.1 j hjl; rw [HF.out] at this; exact this))
        clear hf HI
        go_wp2_with fail
        refine (inS 0 30 x false hd _).mono ?_
        rintro e w1 ⟨rfl, rfl⟩
        clear hd
        go_wp2
        go_ret
        exact ⟨by rw [HE.out]; rfl, HW.out⟩
    · have HE : Hid (decide (sumW l ≤ 30) = b) := gd_end HB.out (by have := HL.out; omega) HAL.out (fun i h _ => HI.out i h (by have := HL.out; omega))
      have HRr : Hid (Rd wr a l) := HR.out.keep HW.out (Nat.le_refl _)
      obtain ⟨S, hS⟩ : ∃ S, sumW l = S := ⟨_, rfl⟩
      have HS := hq hS
      clear HI hS
      go_wp2_with fail
      refine (sumS a l n cap HL.out hn _ HRr.out).mono ?_
      rintro e w1 ⟨rfl, rfl⟩
      rw [HS.out]
      have hE := HE.out
      rw [HS.out] at hE
      subst hE
      clear HE HB
      go_wp2
      go_ret
      exact ⟨rfl, HW.out⟩
def orJ (a b : Int) : Nat → Int
  | 0 => 0
  | j + 1 => orJ a b j + (if a / 2 ^ j % 2 = 1 ∨ b / 2 ^ j % 2 = 1 then 2 ^ j else 0)
def orI (a b : Int) : Int := orJ a b 4
theorem pow_bd (j : Nat) (h : j ≤ 4) : 1 ≤ (2 : Int) ^ j ∧ (2 : Int) ^ j ≤ 16 := by
  have : j = 0 ∨ j = 1 ∨ j = 2 ∨ j = 3 ∨ j = 4 := by omega
  rcases this with rfl | rfl | rfl | rfl | rfl <;> decide
theorem orJ_bd (a b : Int) (j : Nat) (h : j ≤ 4) : 0 ≤ orJ a b j ∧ orJ a b j ≤ 2 ^ j - 1 := by
  induction j with
  | zero => simp [orJ]
  | succ j ih =>
    have h1 := ih (by omega)
    have h2 := pow_bd j (by omega)
    have h3 : (2 : Int) ^ (j + 1) = 2 ^ j * 2 := Int.pow_succ _ _
    unfold orJ
    split <;> omega
theorem orI_bd (a b : Int) : 0 ≤ orI a b ∧ orI a b ≤ 15 := by
  have := orJ_bd a b 4 (by omega)
  unfold orI
  omega
theorem div_bd {a t : Int} (ha : 0 ≤ a ∧ a ≤ 15) (ht : 1 ≤ t) : 0 ≤ a / t ∧ a / t ≤ 15 := by
  refine ⟨Int.ediv_nonneg ha.1 (by omega), ?_⟩
  have := Int.ediv_le_self t ha.1
  omega
theorem bothS (a b : Int) (ha : 0 ≤ a ∧ a ≤ 15) (hb : 0 ≤ b ∧ b ≤ 15) (z : Int) (hz : orI a b = z) (w : World) :
    Calls Tryz.prog 107 #[.int .i64 a, .int .i64 b] w fun e w' => e = .returned (.int .i64 z) ∧ w' = w := by
  have HZ := hq hz
  have HA := hq ha
  have HB := hq hb
  clear hz ha hb
  go_enter Tryz.func107, Tryz.ntmps107
  go_wp2
  go_loopg [5, 6, 7] 4 (fun gk s t i wr => ∃ (j : Nat) (S T : Int), j + gk = 4 ∧ i = .int .i64 j ∧ s = .int .i64 S ∧ t = .int .i64 T ∧ Hid (S = orJ a b j ∧ T = 2 ^ j) ∧ wr = w)
  case atStart => exact ⟨0, 0, 1, by omega, rfl, rfl, rfl, (show _ ∧ _ from ⟨rfl, rfl⟩), rfl⟩
  case round =>
    obtain ⟨j, S, T, hj, rfl, rfl, rfl, HS, rfl⟩ := hrel
    by_cases hlt : j < 4
    · have hT := pow_bd j (by omega)
      rw [← HS.out.2] at hT
      have hS := orJ_bd a b j (by omega)
      rw [← HS.out.1, ← HS.out.2] at hS
      have tz : ¬ T = 0 := by omega
      obtain ⟨x, hx⟩ : ∃ x, a / T = x := ⟨_, rfl⟩
      obtain ⟨y, hy⟩ : ∃ y, b / T = y := ⟨_, rfl⟩
      have hx0 := div_bd HA.out hT.1
      have hy0 := div_bd HB.out hT.1
      rw [hx] at hx0
      rw [hy] at hy0
      have x1 : a.tdiv T = x := by rw [Int.tdiv_eq_ediv_of_nonneg HA.out.1]; exact hx
      have x2 : wrap64 x = x := wrap64_in (by omega) (by omega)
      have y1 : b.tdiv T = y := by rw [Int.tdiv_eq_ediv_of_nonneg HB.out.1]; exact hy
      have y2 : wrap64 y = y := wrap64_in (by omega) (by omega)
      obtain ⟨x3, hx3⟩ : ∃ x3, x % 2 = x3 := ⟨_, rfl⟩
      obtain ⟨y3, hy3⟩ : ∃ y3, y % 2 = y3 := ⟨_, rfl⟩
      have x4 : x.tmod 2 = x3 := by rw [Int.tmod_eq_emod_of_nonneg hx0.1]; exact hx3
      have y4 : y.tmod 2 = y3 := by rw [Int.tmod_eq_emod_of_nonneg hy0.1]; exact hy3
      have qi : IntKind.i64.wrap ((j : Int) + 1) = (j : Int) + 1 := wrap_in (by omega) (by omega)
      obtain ⟨T2, hT2⟩ : ∃ T2, 2 * T = T2 := ⟨_, rfl⟩
      have qt : IntKind.i64.wrap (2 * T) = T2 := by rw [hT2]; exact wrap_in (by omega) (by omega)
      have qt' : wrap64 (2 * T) = T2 := by rw [hT2]; exact wrap64_in (by omega) (by omega)
      obtain ⟨S2, hS2⟩ : ∃ S2, S + T = S2 := ⟨_, rfl⟩
      have qs : IntKind.i64.wrap (S + T) = S2 := by rw [hS2]; exact wrap_in (by omega) (by omega)
      have HT2 : Hid (T2 = 2 ^ (j + 1)) := by show _ = _; rw [← hT2, HS.out.2, Int.pow_succ]; omega
      have HJ : Hid (orJ a b (j + 1) = S + (if x3 = 1 ∨ y3 = 1 then T else 0)) := by
        show _ = _
        unfold orJ
        rw [← HS.out.1, ← HS.out.2, hx, hy, hx3, hy3]
      clear hT2 hx hy hx3 hy3 hT hS hx0 hy0 HS
      by_cases c1 : x3 = 1
      · have HN : Hid (S2 = orJ a b (j + 1) ∧ T2 = 2 ^ (j + 1)) := ⟨by rw [HJ.out, if_pos (Or.inl c1)]; exact hS2.symm, HT2.out⟩
        subst c1
        clear HJ HT2 hS2 y1 y2 y4
        go_wp2
        go_roundg (gk - 1)
        case measure => omega
        case rel => exact ⟨j + 1, S2, T2, by omega, by go_num, rfl, rfl, HN, rfl⟩
      · have q1 : (x3 == 1) = false := by simpa using c1
        by_cases c2 : y3 = 1
        · have HN : Hid (S2 = orJ a b (j + 1) ∧ T2 = 2 ^ (j + 1)) := ⟨by rw [HJ.out, if_pos (Or.inr c2)]; exact hS2.symm, HT2.out⟩
          subst c2
          clear HJ HT2 hS2 c1
          go_wp2
          go_roundg (gk - 1)
          case measure => omega
          case rel => exact ⟨j + 1, S2, T2, by omega, by go_num, rfl, rfl, HN, rfl⟩
        · have q2 : (y3 == 1) = false := by simpa using c2
          have HN : Hid (S = orJ a b (j + 1) ∧ T2 = 2 ^ (j + 1)) := ⟨by rw [HJ.out, if_neg (by omega)]; omega, HT2.out⟩
          clear HJ HT2 hS2 c1 c2 qs
          go_wp2
          go_roundg (gk - 1)
          case measure => omega
          case rel => exact ⟨j + 1, S, T2, by omega, by go_num, rfl, rfl, HN, rfl⟩
    · obtain rfl : j = 4 := by omega
      have HE : Hid (S = z) := by show _ = _; rw [HS.out.1]; exact HZ.out
      clear HS HZ
      go_wp2
      go_ret
      exact ⟨by rw [HE.out]; rfl, rfl⟩
theorem lesS (a b z : Int) (hz : min a b = z) (w : World) : Calls Tryz.prog 108 #[.int .i64 a, .int .i64 b] w fun e w' => e = .returned (.int .i64 z) ∧ w' = w := by
  by_cases h : a < b
  · obtain rfl : a = z := by omega
    clear hz
    go_enter Tryz.func108, Tryz.ntmps108
    go_wp2
    go_ret
    exact ⟨rfl, rfl⟩
  · obtain rfl : b = z := by omega
    clear hz
    go_enter Tryz.func108, Tryz.ntmps108
    go_wp2
    go_ret
    exact ⟨rfl, rfl⟩
def letG (l : List Int) (x : Int) : Int := max (min x (30 - sumN l)) 0
theorem allowS (a : Option Addr) (al : Int) (l : List Int) (n cap : Nat) (x : Int) (b : Bool) (z : Int) (hl : l.length = n) (hn : n ≤ 9223372036854775807) (hb : b = true ↔ GdR l al) (hz : (if b = true ∧ al = 0 then letG l x else 0) = z) (w : World) (hr : Rd w a l) :
    Calls Tryz.prog 54 #[.agg #[.slice a n cap, .int .i64 al], .int .i64 x] w fun e w' => e = .returned (.int .i64 z) ∧ Below w.heap.size w w' := by
  have HB := hq hb
  have HL := hq hl
  have HZ := hq hz
  obtain ⟨h1, h2, h3⟩ := box2 w (.slice a n cap) (.int .i64 al) 32
  have HX := hq h1
  have HW := hq h2
  have HR : Hid (Rd _ a l) := hr.keep h2 (Nat.le_refl _)
  have k0 := row2_cells h1
  clear hb hl hr hz h1 h2 h3
  go_enter Tryz.func54, Tryz.ntmps54
  go_wp2_with fail
  refine (guardokS a al l n cap b HL.out hn HB.out _ HR.out).mono ?_
  rintro e w1 ⟨rfl, hb1⟩
  have HX1 := hq (row_on HX.out hb1)
  have HW1 := bq HW hb1
  have HR1 := hq (HR.out.keep hb1 (Nat.le_refl _))
  have k1 := row2_cells HX1.out
  clear hb1 HX HW HR k0
  cases b
  · have HE : Hid (z = 0) := by show _ = _; rw [← HZ.out]; simp
    go_wp2
    go_ret
    exact ⟨by rw [HE.out]; rfl, HW1.out⟩
  by_cases c1 : al = 0
  case neg =>
    have HE : Hid (z = 0) := by show _ = _; rw [← HZ.out]; simp [c1]
    have q1 : (al != 0) = true := by simpa using c1
    go_wp2
    go_ret
    exact ⟨by rw [HE.out]; rfl, HW1.out⟩
  subst c1
  have hz := HZ.out
  simp only [and_self, if_true] at hz
  unfold letG at hz
  have hrm := room_bd (HB.out.1 rfl)
  by_cases c2 : x < 0
  · obtain rfl : z = 0 := by omega
    clear hz hrm
    go_wp2
    go_ret
    exact ⟨rfl, HW1.out⟩
  · obtain ⟨R, hR⟩ : ∃ R, 30 - sumN l = R := ⟨_, rfl⟩
    rw [hR] at hrm hz
    have HM : Hid (min x R = z) := by show _ = _; omega
    have HRM : Hid (IntKind.i64.wrap (30 - sumW l) = R) := hrm.1
    clear hz hrm hR HZ
    go_wp2_with fail
    refine (roomS a 0 l n cap R HRM.out HL.out hn _ HR1.out).mono ?_
    rintro e w2 ⟨rfl, hb2⟩
    have HW2 := bq HW1 hb2
    clear hb2
    go_wp2_with fail
    refine (lesS x R z HM.out _).mono ?_
    rintro e w3 ⟨rfl, rfl⟩
    go_wp2
    go_ret
    exact ⟨rfl, HW2.out⟩
theorem copyGS (a : Option Addr) (al : Int) (l : List Int) (n cap : Nat) (hl : l.length = n) (hn : n ≤ 1048576) (ha : a = none → n = 0 ∧ cap = 0) (w : World) (hr : Rd w a l) :
    Calls Tryz.prog 101 #[.agg #[.slice a n cap, .int .i64 al]] w fun e w' => ∃ g c, e = .returned (.agg #[.slice (some ⟨g, 0, none⟩) n c, .int .i64 al]) ∧ OwnN w' (w.heap.size + 2) g n c l ∧ Below w.heap.size w w' := by
  obtain ⟨hA, hZ, hW, hS⟩ := box2b w (.slice a n cap) (.int .i64 al) (.slice none 0 0) (.int .i64 0) 32 32
  have HA := hq hA
  have HZ := hq hZ
  have HW := hq hW
  have HS := hq hS
  have HR := hq hr
  have HL := hq hl
  have HN := hq ha
  have HQ : Hid (_ ∧ _ ∧ _) := ⟨(row2_cells hA).1, (row2_cells hA).2.1, hW⟩
  clear hA hZ hW hS hr hl ha
  go_enter Tryz.func101, Tryz.ntmps101
  go_wp2_with fail
  generalize hW0 : (w.alloc (.cells #[.slice a n cap, .int .i64 al] 32)).alloc (.cells #[.slice none 0 0, .int .i64 0] 32) = W0 at *
  clear hW0
  have HS2 : Hid (w.heap.size + 2 ≤ W0.heap.size) := by rw [HS.out]; exact Nat.le_refl _
  go_region_held3 (fun w' => w'.cell? ⟨w.heap.size, 0, none⟩ = some (.slice a n cap) ∧ w'.cell? ⟨w.heap.size, 1, none⟩ = some (.int .i64 al) ∧ Below w.heap.size w w') (first | (exact HSz.out) | (exact l6_set (by omega) (l6_set (by omega) HSz.out)) | (exact l6_alloc (by assumption) _) | (exact ⟨HQ.out.1, HQ.out.2.1, HQ.out.2.2.drew⟩)) (first | (refine anyN rfl (.tmp 3) (.tmp 5) rfl (w.heap.size + 2) W0.heap.size 0 0 [] a n cap l rfl rfl (own_new W0 _ HS2.out).drew HL.out HN.out ?_ (by omega) (Nat.le_trans HS2.out (by simp)) ?_; (exact (HR.out.keep (And.right (And.right (by assumption))) (Nat.le_refl _))); intro g3 c3 w3 hown3 hgr3 hat3; have HSz : Hid (_ ∧ _ ∧ _) := l6_grown (by assumption) hgr3 (by have := HS2.out; omega); have HO3 : Hid (OwnN w3 _ _ _ _ _) := hown3; have kz := row2_cells (grown_row hgr3 ((Below.heap_alloc _ _ _ (row_lt HZ.out)).trans HZ.out) (by intro e; have := Option.some.inj e; have := HS.out; omega)); clear hown3 hgr3 hat3))
  rename_i hHeld
  have HSe := hq hHeld
  clear hHeld
  go_wp2
  refine bodyPost_ret (v := .agg #[.slice (some ⟨g3, 0, none⟩) n c3, .int .i64 al]) (by simp [results, Tryz.results101, go_sem, kz]) rfl ⟨g3, c3, rfl, ?_, HSe.out.2.2⟩
  have h := HO3.out
  have hge := h.ge
  rw [Nat.zero_add, List.nil_append] at h
  exact own_setOther (own_setOther h (fun k hk => by simp [Value.ownBlock] at hk; omega)) (fun k hk => by simp [Value.ownBlock] at hk; omega)
theorem alG (w : World) (o : Obj) : Below w.heap.size w (w.alloc o) := (Below.refl _ _).alloc (Nat.le_refl _) _
theorem al_atG (w : World) (o : Obj) {k : Nat} (h : w.heap.size = k) : (w.alloc o).heap[k]? = some o := by subst h; exact heap_new w o
theorem set_rowG {w : World} {k : Nat} {T : TypeId} {a : Array Value} (h : w.heap[k]? = some (.cells a T)) (i : Nat) (x : Value) : (w.setCell ⟨k, i, none⟩ x).heap[k]? = some (.cells (a.setIfInBounds i x) T) := heap_setCell_same w k i _ _ x h
def PutG (w w' : World) (g : Nat) (o : Obj) : Prop := w'.heap[g]? = some o ∧ (∀ k, k ≠ g → w'.heap[k]? = w.heap[k]?) ∧ w'.heap.size = w.heap.size ∧ (∀ B W, B ≤ g → Below B W w → Below B W w')
theorem PutG.far {w w' : World} {g k : Nat} {o p : Obj} (h : PutG w w' g o) (hr : w.heap[k]? = some p) (hne : k ≠ g) : w'.heap[k]? = some p := (h.2.1 k hne).trans hr
theorem own_same {w w' : World} {B g n c : Nat} {l : List Int} (h : OwnN w B g n c l) (hg : w'.heap[g]? = w.heap[g]?) : OwnN w' B g n c l := by
  refine ⟨h.1, ?_⟩
  rcases h.2 with h2 | ⟨g', cap, cur, e, h3, h4, h5⟩
  · exact .inl h2
  · cases e
    exact .inr ⟨_, _, _, rfl, h3, hg.trans h4, h5⟩
theorem OwnN.cap {w : World} {B g n c : Nat} {l : List Int} (h : OwnN w B g n c l) : n ≤ c := by
  rcases h.2 with h2 | ⟨g', cap, cur, e, h3, h4, h5, _⟩
  · cases h2.1
  · cases e
    exact h5
theorem rd_take {w : World} {a : Option Addr} {l : List Int} (h : Rd w a l) (m : Nat) : Rd w a (l.take m) := fun h0 => by
  have hl : (l.take m).length ≤ l.length := by simp; omega
  obtain ⟨g, off, ha, hc⟩ := h (by omega)
  refine ⟨g, off, ha, fun j hj => ?_⟩
  rw [List.getElem_take]
  exact hc j (by omega)
theorem PutG.own {w w' : World} {g B k n c : Nat} {o : Obj} {l : List Int} (h : PutG w w' g o) (hr : OwnN w B k n c l) (hne : k ≠ g) : OwnN w' B k n c l := own_same hr (h.2.1 k hne)
theorem listStoreG {ops : Array Oper} {rest : List Oper} {o : Oper} {a : Act} {Q : Exit → Act → World → Prop} {w : World} (hgd : o.guard = none) (hd : o.dst = none) (x y : Operand) (ty : TypeId) (ho : o.op = .store ty x y) (hty : ty = 32)
    (g : Nat) (q : Option Addr) (n c : Nat) (z : Int) (hx : a.eval x = .pointer (some ⟨g, 0, none⟩)) (hy : a.eval y = .agg #[.slice q n c, .int .i64 z])
    {u0 u1 : Value} (hg : w.heap[g]? = some (.cells #[u0, u1] 32))
    (h : ∀ w' : World, PutG w w' g (.cells #[.slice q n c, .int .i64 z] 32) → wpList Tryz.prog ops Q rest a w') : wpList Tryz.prog ops Q (o :: rest) a w := by
  subst hty
  refine wpList_store_rowTo hgd _ x y ho hd g _ hx hy _ _ hg (by kernel_rfl) rfl (by kernel_rfl) ?_
  refine h _ ⟨setRow_heap w g _ _ _ _ hg, fun k hk => setRow_other w g k _ hk, setRow_size w g _, fun B W hB hb => ?_⟩
  exact ⟨hb.os, hb.tape, hb.output, by rw [setRow_size]; exact hb.size, fun k hk => by rw [setRow_other w g k _ (by omega)]; exact hb.block k hk⟩
theorem storeV_run {w : World} {g i : Nat} {z : Int} {cs : Array Value} {T : TypeId} (hg : w.heap[g]? = some (.cells cs T)) (hi : i < cs.size) : (Instr.storeAt 3 (.pointer (some ⟨g, i, none⟩)) (.int .i64 z)).run Tryz.prog w = .ok () (w.setCell ⟨g, i, none⟩ (.int .i64 z)) := by
  have k1 : w.cell? ⟨g, i, none⟩ = some cs[i] := by simp [World.cell?, hg, hi]
  have k2 : w.frozen? ⟨g, i, none⟩ = false := by simp [World.frozen?, hg]
  simp [go_sem, Instr.storeAt, k1, k2]
theorem storeL_run {w : World} {g i : Nat} {q : Option Addr} {n c : Nat} {cs : Array Value} {T : TypeId} (hg : w.heap[g]? = some (.cells cs T)) (hi : i < cs.size) : (Instr.storeAt 30 (.pointer (some ⟨g, i, none⟩)) (.slice q n c)).run Tryz.prog w = .ok () (w.setCell ⟨g, i, none⟩ (.slice q n c)) := by
  have k1 : w.cell? ⟨g, i, none⟩ = some cs[i] := by simp [World.cell?, hg, hi]
  have k2 : w.frozen? ⟨g, i, none⟩ = false := by simp [World.frozen?, hg]
  simp [go_sem, Instr.storeAt, k1, k2]
theorem putG_set {w : World} {g i : Nat} {v : Value} {cs : Array Value} {T : TypeId} (hg : w.heap[g]? = some (.cells cs T)) : PutG w (w.setCell ⟨g, i, none⟩ v) g (.cells (cs.setIfInBounds i v) T) :=
  ⟨set_rowG hg i _, fun k hk => Below.heap_setCell _ _ _ _ hk, by simp, fun B W hB hb => hb.setCell hB _⟩
theorem listStoreI {ops : Array Oper} {rest : List Oper} {o : Oper} {a : Act} {Q : Exit → Act → World → Prop} {w : World} (hgd : o.guard = none) (hd : o.dst = none) (x y : Operand) (ty : TypeId) (ho : o.op = .store ty x y) (hty : ty = 3)
    (g i : Nat) (z : Int) (hx : a.eval x = .pointer (some ⟨g, i, none⟩)) (hy : a.eval y = .int .i64 z)
    {cs : Array Value} {T : TypeId} (hg : w.heap[g]? = some (.cells cs T)) (hi : i < cs.size)
    (h : ∀ w' : World, PutG w w' g (.cells (cs.setIfInBounds i (.int .i64 z)) T) → wpList Tryz.prog ops Q rest a w') : wpList Tryz.prog ops Q (o :: rest) a w := by
  subst hty
  refine wpList_plain hgd fun _ hK => ?_
  unfold Oper.wp
  simp only [execOp, ho, hx, hy, Sem.run_bind, storeV_run hg hi, Result.andThen, Sem.run_pure]
  exact hK _ _ (by rw [hd]; exact h _ (putG_set hg))
theorem listStoreL {ops : Array Oper} {rest : List Oper} {o : Oper} {a : Act} {Q : Exit → Act → World → Prop} {w : World} (hgd : o.guard = none) (hd : o.dst = none) (x y : Operand) (ty : TypeId) (ho : o.op = .store ty x y) (hty : ty = 30)
    (g i : Nat) (q : Option Addr) (n c : Nat) (hx : a.eval x = .pointer (some ⟨g, i, none⟩)) (hy : a.eval y = .slice q n c)
    {cs : Array Value} {T : TypeId} (hg : w.heap[g]? = some (.cells cs T)) (hi : i < cs.size)
    (h : ∀ w' : World, PutG w w' g (.cells (cs.setIfInBounds i (.slice q n c)) T) → wpList Tryz.prog ops Q rest a w') : wpList Tryz.prog ops Q (o :: rest) a w := by
  subst hty
  refine wpList_plain hgd fun _ hK => ?_
  unfold Oper.wp
  simp only [execOp, ho, hx, hy, Sem.run_bind, storeL_run hg hi, Result.andThen, Sem.run_pure]
  exact hK _ _ (by rw [hd]; exact h _ (putG_set hg))
def feelA (b : Bool) (al x : Int) (seen : Bool) : Int := if b = true ∧ (0 ≤ x ∧ x ≤ 15) then (if seen = true then x else orI al x) else al
theorem feelS (a : Option Addr) (al : Int) (l : List Int) (n cap : Nat) (x : Int) (seen : Bool) (b : Bool) (y : Int) (hy : feelA b al x seen = y) (hl : l.length = n) (hn : n ≤ 1048576) (ha : a = none → n = 0 ∧ cap = 0) (hb : b = true ↔ GdR l al) (w : World) (hr : Rd w a l) :
    Calls Tryz.prog 53 #[.agg #[.slice a n cap, .int .i64 al], .int .i64 x, .bool seen] w fun e w' => ∃ g c, e = .returned (.agg #[.slice (some ⟨g, 0, none⟩) n c, .int .i64 y]) ∧ OwnN w' (w.heap.size + 2) g n c l ∧ Below w.heap.size w w' := by
  have HY := hq hy
  clear hy
  have HL := hq hl
  have HR := hq hr
  have HN := hq ha
  have HBo := hq hb
  have HB0 : Hid (Below w.heap.size w ((w.alloc (.cells #[.slice a n cap, .int .i64 al] 32)).alloc (.cells #[.slice none 0 0, .int .i64 0] 32))) := bel_on (Nat.le_refl _) (alG _ _) (alG _ _)
  have HP0 : Hid (((w.alloc (.cells #[.slice a n cap, .int .i64 al] 32)).alloc (.cells #[.slice none 0 0, .int .i64 0] 32)).heap[w.heap.size]? = some (.cells #[.slice a n cap, .int .i64 al] 32)) := row_on (heap_new w _) (alG _ _)
  have HZ0 : Hid (((w.alloc (.cells #[.slice a n cap, .int .i64 al] 32)).alloc (.cells #[.slice none 0 0, .int .i64 0] 32)).heap[w.heap.size + 1]? = some (.cells #[.slice none 0 0, .int .i64 0] 32)) := al_atG (w.alloc (.cells #[.slice a n cap, .int .i64 al] 32)) _ (by simp)
  have p0 := row2_cells HP0.out
  clear hl hr ha hb
  go_enter Tryz.func53, Tryz.ntmps53
  go_wp2_with fail
  refine (copyGS a al l n cap HL.out hn HN.out _ (HR.out.keep HB0.out (Nat.le_refl _))).mono ?_
  rintro e w1 ⟨g, c, rfl, hown, hb1⟩
  have hs0 : ((w.alloc (.cells #[.slice a n cap, .int .i64 al] 32)).alloc (.cells #[.slice none 0 0, .int .i64 0] 32)).heap.size = w.heap.size + 1 + 1 := by simp
  have HO1 : Hid (OwnN w1 (w.heap.size + 2) g n c l) := hown.mono (by omega)
  have HB1 := bq HB0 hb1
  have HP1 := rq HP0 hb1
  have HZ1 := rq HZ0 hb1
  have hl1 := row_lt HZ1.out
  have hg1 := HO1.out.ge
  have hg2 := HO1.out.lt
  clear hown hb1 HB0 HP0 HZ0 p0 hs0
  have HQ2 : Hid ((w1.alloc (.cells #[.slice (some ⟨g, 0, none⟩) n c, .int .i64 al] 32)).heap[w1.heap.size]? = some (.cells #[.slice (some ⟨g, 0, none⟩) n c, .int .i64 al] 32)) := heap_new w1 _
  have HB2 : Hid (Below w.heap.size w (w1.alloc (.cells #[.slice (some ⟨g, 0, none⟩) n c, .int .i64 al] 32))) := bel_on (Nat.le_refl _) HB1.out (alG _ _)
  have HP2 : Hid ((w1.alloc (.cells #[.slice (some ⟨g, 0, none⟩) n c, .int .i64 al] 32)).heap[w.heap.size]? = some (.cells #[.slice a n cap, .int .i64 al] 32)) := row_on HP1.out (alG _ _)
  have HZ2 : Hid ((w1.alloc (.cells #[.slice (some ⟨g, 0, none⟩) n c, .int .i64 al] 32)).heap[w.heap.size + 1]? = some (.cells #[.slice none 0 0, .int .i64 0] 32)) := row_on HZ1.out (alG _ _)
  have HO2 : Hid (OwnN (w1.alloc (.cells #[.slice (some ⟨g, 0, none⟩) n c, .int .i64 al] 32)) (w.heap.size + 2) g n c l) := HO1.out.on (alG _ _)
  have p2 := row2_cells HP2.out
  have q2 := row2_cells HQ2.out
  clear HB1 HP1 HZ1 HO1
  obtain ⟨Q, hQ⟩ : ∃ Q, w1.heap.size = Q := ⟨_, rfl⟩
  go_wp2_with fail
  refine (guardokS a al l n cap b HL.out (by omega) HBo.out _ (HR.out.keep HB2.out (Nat.le_refl _))).mono ?_
  rintro e w3 ⟨rfl, hb1⟩
  rw [hQ] at HQ2 hl1 hg2
  have HB3 := bq HB2 hb1
  have HP3 := rq HP2 hb1
  have HZ3 := rq HZ2 hb1
  have HO3 := hq (HO2.out.on hb1)
  have HQ3 := rq HQ2 hb1
  have p3 := row2_cells HP3.out
  have q3 := row2_cells HQ3.out
  clear hb1 HB2 HP2 HZ2 HO2 HQ2 p2 q2
  clear hQ
  cases b
  · obtain rfl : al = y := by rw [← HY.out]; simp [feelA]
    clear HY
    go_upto_region 3 with fail
    go_wp2_with (refine listStoreG rfl rfl _ _ _ rfl rfl (w.heap.size + 1) (some ⟨g, 0, none⟩) n c (al) rfl rfl HZ3.out ?_)
    intro w9 hput
    have HB9 := hq (hput.2.2.2 _ _ (Nat.le_succ _) HB3.out)
    have HO9 : Hid (OwnN w9 (w.heap.size + 2) g n c l) := hput.own HO3.out (by omega)
    obtain ⟨z0, z1, _⟩ := row2_cells hput.1
    clear hput
    go_wp2
    refine bodyPost_ret (v := .agg #[.slice (some ⟨g, 0, none⟩) n c, .int .i64 (al)]) (by simp only [results, Tryz.results53]; simp [go_sem, z0, z1]) rfl ⟨g, c, rfl, HO9.out, HB9.out⟩
  by_cases hx : 0 ≤ x ∧ x ≤ 15
  case neg =>
    obtain rfl : al = y := by rw [← HY.out]; simp only [feelA]; rw [if_neg (fun h => hx h.2)]
    have hd := decide_eq_false hx
    clear HY hx
    go_wp2_with fail
    refine (H.senseS x false hd _).mono ?_
    rintro e w4 ⟨rfl, rfl⟩
    go_upto_region 3 with fail
    go_wp2_with (refine listStoreG rfl rfl _ _ _ rfl rfl (w.heap.size + 1) (some ⟨g, 0, none⟩) n c (al) rfl rfl HZ3.out ?_)
    intro w9 hput
    have HB9 := hq (hput.2.2.2 _ _ (Nat.le_succ _) HB3.out)
    have HO9 : Hid (OwnN w9 (w.heap.size + 2) g n c l) := hput.own HO3.out (by omega)
    obtain ⟨z0, z1, _⟩ := row2_cells hput.1
    clear hput
    go_wp2
    refine bodyPost_ret (v := .agg #[.slice (some ⟨g, 0, none⟩) n c, .int .i64 (al)]) (by simp only [results, Tryz.results53]; simp [go_sem, z0, z1]) rfl ⟨g, c, rfl, HO9.out, HB9.out⟩
  have hd := decide_eq_true hx
  have hy := HY.out
  unfold feelA at hy
  rw [if_pos ⟨rfl, hx⟩] at hy
  obtain ⟨u, hu⟩ : ∃ u, orI al x = u := ⟨_, rfl⟩
  rw [hu] at hy
  have HU := hq hu
  have HX := hq hx
  have HAL : Hid (0 ≤ al ∧ al ≤ 15) := (HBo.out.1 rfl).2.1
  clear HY hx hu
  go_wp2_with fail
  refine (H.senseS x true hd _).mono ?_
  rintro e w4 ⟨rfl, rfl⟩
  clear hd
  go_wp2_with fail
  refine (bothS al x HAL.out HX.out u HU.out _).mono ?_
  rintro e w5 ⟨rfl, rfl⟩
  go_wp2_with (refine listStoreI rfl rfl _ _ _ rfl rfl Q 1 (u) rfl rfl HQ3.out (by simp) ?_)
  intro w4 hput
  have HB4 := hq (hput.2.2.2 _ _ (by omega) HB3.out)
  have HP4 := hq (hput.far HP3.out (by omega))
  have HZ4 := hq (hput.far HZ3.out (by omega))
  have HO4 : Hid (OwnN w4 (w.heap.size + 2) g n c l) := hput.own HO3.out (by omega)
  have HQ4 := hq hput.1
  have p4 := row2_cells HP4.out
  have q4 := row2_cells HQ4.out
  clear hput HB3 HP3 HZ3 HO3 HQ3 p3 q3
  cases seen
  · simp at hy
    subst hy
    go_upto_region 7 with fail
    go_wp2_with (refine listStoreG rfl rfl _ _ _ rfl rfl (w.heap.size + 1) (some ⟨g, 0, none⟩) n c (u) rfl rfl HZ4.out ?_)
    intro w9 hput
    have HB9 := hq (hput.2.2.2 _ _ (Nat.le_succ _) HB4.out)
    have HO9 : Hid (OwnN w9 (w.heap.size + 2) g n c l) := hput.own HO4.out (by omega)
    obtain ⟨z0, z1, _⟩ := row2_cells hput.1
    clear hput
    go_wp2
    refine bodyPost_ret (v := .agg #[.slice (some ⟨g, 0, none⟩) n c, .int .i64 (u)]) (by simp only [results, Tryz.results53]; simp [go_sem, z0, z1]) rfl ⟨g, c, rfl, HO9.out, HB9.out⟩
  · simp at hy
    subst hy
    go_upto_region 6 with fail
    go_wp2_with (refine listStoreI rfl rfl _ _ _ rfl rfl Q 1 (x) rfl rfl HQ4.out (by simp) ?_)
    intro w5 hput
    have HB5 := hq (hput.2.2.2 _ _ (by omega) HB4.out)
    have HP5 := hq (hput.far HP4.out (by omega))
    have HZ5 := hq (hput.far HZ4.out (by omega))
    have HO5 : Hid (OwnN w5 (w.heap.size + 2) g n c l) := hput.own HO4.out (by omega)
    have HQ5 := hq hput.1
    have p5 := row2_cells HP5.out
    have q5 := row2_cells HQ5.out
    clear hput HB4 HP4 HZ4 HO4 HQ4 p4 q4
    go_upto_region 7 with fail
    go_wp2_with (refine listStoreG rfl rfl _ _ _ rfl rfl (w.heap.size + 1) (some ⟨g, 0, none⟩) n c (x) rfl rfl HZ5.out ?_)
    intro w9 hput
    have HB9 := hq (hput.2.2.2 _ _ (Nat.le_succ _) HB5.out)
    have HO9 : Hid (OwnN w9 (w.heap.size + 2) g n c l) := hput.own HO5.out (by omega)
    obtain ⟨z0, z1, _⟩ := row2_cells hput.1
    clear hput
    go_wp2
    refine bodyPost_ret (v := .agg #[.slice (some ⟨g, 0, none⟩) n c, .int .i64 (x)]) (by simp only [results, Tryz.results53]; simp [go_sem, z0, z1]) rfl ⟨g, c, rfl, HO9.out, HB9.out⟩
def KG3 (w w' : World) (Q : Nat) (p z q : Obj) : Prop := w'.heap[w.heap.size]? = some p ∧ w'.heap[w.heap.size + 1]? = some z ∧ w'.heap[Q]? = some q ∧ Below w.heap.size w w'
theorem KG3.on {w w' w2 : World} {Q : Nat} {p z q : Obj} (h : KG3 w w' Q p z q) (hb : Below w'.heap.size w' w2) : KG3 w w2 Q p z q := ⟨row_on h.1 hb, row_on h.2.1 hb, row_on h.2.2.1 hb, bel_on (Nat.le_refl _) h.2.2.2 hb⟩
theorem KG3.grown {w w' w2 : World} {Q k : Nat} {p z q : Obj} (h : KG3 w w' Q p z q) (hg : w'.grownBy w2 (some k)) (h1 : w.heap.size + 1 < k) (h2 : Q ≠ k) : KG3 w w2 Q p z q := by
  have b : ∀ m o, w'.heap[m]? = some o → m ≠ k → w2.heap[m]? = some o := fun m o hm hne => (hg.block m (row_lt hm) (fun e => hne (Option.some.inj e))).trans hm
  exact ⟨b _ _ h.1 (by omega), b _ _ h.2.1 (by omega), b _ _ h.2.2.1 h2, h.2.2.2.grown hg h.2.2.2.size (fun m hm => by cases hm; omega)⟩
theorem kg_conj {w w' : World} {Q : Nat} {x y : Value} {T : TypeId} {z q : Obj} (h : KG3 w w' Q (.cells #[x, y] T) z q) : w'.cell? ⟨w.heap.size, 0, none⟩ = some x ∧ w'.cell? ⟨w.heap.size, 1, none⟩ = some y ∧ Below w.heap.size w w' := by
  refine ⟨?_, ?_, h.2.2.2⟩ <;> simp [World.cell?, h.1]
def passL (b : Bool) (l : List Int) (x : Int) : List Int := if b = true then (letG l x :: l).take 9 else l
theorem passS (a : Option Addr) (al : Int) (l : List Int) (n cap : Nat) (x : Int) (b : Bool) (Y : List Int) (m : Nat) (hY : passL b l x = Y) (hm : Y.length = m) (hl : l.length = n) (hn : n ≤ 1048576) (ha : a = none → n = 0 ∧ cap = 0) (hb : b = true ↔ GdR l al) (w : World) (hr : Rd w a l) :
    Calls Tryz.prog 57 #[.agg #[.slice a n cap, .int .i64 al], .int .i64 x] w fun e w' => ∃ g c, e = .returned (.agg #[.slice (some ⟨g, 0, none⟩) m c, .int .i64 al]) ∧ OwnN w' (w.heap.size + 2) g m c Y ∧ Below w.heap.size w w' := by
  have HY := hq hY
  have HM0 := hq hm
  clear hY hm
  have HL := hq hl
  have HR := hq hr
  have HN := hq ha
  have HBo := hq hb
  have HB0 : Hid (Below w.heap.size w ((w.alloc (.cells #[.slice a n cap, .int .i64 al] 32)).alloc (.cells #[.slice none 0 0, .int .i64 0] 32))) := bel_on (Nat.le_refl _) (alG _ _) (alG _ _)
  have HP0 : Hid (((w.alloc (.cells #[.slice a n cap, .int .i64 al] 32)).alloc (.cells #[.slice none 0 0, .int .i64 0] 32)).heap[w.heap.size]? = some (.cells #[.slice a n cap, .int .i64 al] 32)) := row_on (heap_new w _) (alG _ _)
  have HZ0 : Hid (((w.alloc (.cells #[.slice a n cap, .int .i64 al] 32)).alloc (.cells #[.slice none 0 0, .int .i64 0] 32)).heap[w.heap.size + 1]? = some (.cells #[.slice none 0 0, .int .i64 0] 32)) := al_atG (w.alloc (.cells #[.slice a n cap, .int .i64 al] 32)) _ (by simp)
  have p0 := row2_cells HP0.out
  clear hl hr ha hb
  go_enter Tryz.func57, Tryz.ntmps57
  go_wp2_with fail
  refine (copyGS a al l n cap HL.out hn HN.out _ (HR.out.keep HB0.out (Nat.le_refl _))).mono ?_
  rintro e w1 ⟨g, c, rfl, hown, hb1⟩
  have hs0 : ((w.alloc (.cells #[.slice a n cap, .int .i64 al] 32)).alloc (.cells #[.slice none 0 0, .int .i64 0] 32)).heap.size = w.heap.size + 1 + 1 := by simp
  have HO1 : Hid (OwnN w1 (w.heap.size + 2) g n c l) := hown.mono (by omega)
  have HB1 := bq HB0 hb1
  have HP1 := rq HP0 hb1
  have HZ1 := rq HZ0 hb1
  have hl1 := row_lt HZ1.out
  have hg1 := HO1.out.ge
  have hg2 := HO1.out.lt
  clear hown hb1 HB0 HP0 HZ0 p0 hs0
  have HQ2 : Hid ((w1.alloc (.cells #[.slice (some ⟨g, 0, none⟩) n c, .int .i64 al] 32)).heap[w1.heap.size]? = some (.cells #[.slice (some ⟨g, 0, none⟩) n c, .int .i64 al] 32)) := heap_new w1 _
  have HB2 : Hid (Below w.heap.size w (w1.alloc (.cells #[.slice (some ⟨g, 0, none⟩) n c, .int .i64 al] 32))) := bel_on (Nat.le_refl _) HB1.out (alG _ _)
  have HP2 : Hid ((w1.alloc (.cells #[.slice (some ⟨g, 0, none⟩) n c, .int .i64 al] 32)).heap[w.heap.size]? = some (.cells #[.slice a n cap, .int .i64 al] 32)) := row_on HP1.out (alG _ _)
  have HZ2 : Hid ((w1.alloc (.cells #[.slice (some ⟨g, 0, none⟩) n c, .int .i64 al] 32)).heap[w.heap.size + 1]? = some (.cells #[.slice none 0 0, .int .i64 0] 32)) := row_on HZ1.out (alG _ _)
  have HO2 : Hid (OwnN (w1.alloc (.cells #[.slice (some ⟨g, 0, none⟩) n c, .int .i64 al] 32)) (w.heap.size + 2) g n c l) := HO1.out.on (alG _ _)
  have p2 := row2_cells HP2.out
  have q2 := row2_cells HQ2.out
  clear HB1 HP1 HZ1 HO1
  obtain ⟨Q, hQ⟩ : ∃ Q, w1.heap.size = Q := ⟨_, rfl⟩
  go_wp2_with fail
  refine (guardokS a al l n cap b HL.out (by omega) HBo.out _ (HR.out.keep HB2.out (Nat.le_refl _))).mono ?_
  rintro e w3 ⟨rfl, hb1⟩
  rw [hQ] at HQ2 hl1 hg2
  have HB3 := bq HB2 hb1
  have HP3 := rq HP2 hb1
  have HZ3 := rq HZ2 hb1
  have HO3 := hq (HO2.out.on hb1)
  have HQ3 := rq HQ2 hb1
  have p3 := row2_cells HP3.out
  have q3 := row2_cells HQ3.out
  clear hb1 HB2 HP2 HZ2 HO2 HQ2 p2 q2
  clear hQ
  cases b
  · obtain rfl : l = Y := by rw [← HY.out]; simp [passL]
    obtain rfl : n = m := by rw [← HM0.out]; exact HL.out.symm
    clear HY HM0
    go_upto_region 3 with fail
    go_wp2_with (refine listStoreG rfl rfl _ _ _ rfl rfl (w.heap.size + 1) (some ⟨g, 0, none⟩) n c (al) rfl rfl HZ3.out ?_)
    intro w9 hput
    have HB9 := hq (hput.2.2.2 _ _ (Nat.le_succ _) HB3.out)
    have HO9 : Hid (OwnN w9 (w.heap.size + 2) g n c l) := hput.own HO3.out (by omega)
    obtain ⟨z0, z1, _⟩ := row2_cells hput.1
    clear hput
    go_wp2
    refine bodyPost_ret (v := .agg #[.slice (some ⟨g, 0, none⟩) n c, .int .i64 (al)]) (by simp only [results, Tryz.results57]; simp [go_sem, z0, z1]) rfl ⟨g, c, rfl, HO9.out, HB9.out⟩
  have hG := HBo.out.1 rfl
  have hn9 : n ≤ 9 := by have := hG.1; have := HL.out; omega
  obtain ⟨hr1, hr2, hr3⟩ := room_bd hG
  obtain ⟨R, hR⟩ : ∃ R, 30 - sumN l = R := ⟨_, rfl⟩
  rw [hR] at hr1 hr2 hr3
  have HRM := hq hr1
  obtain ⟨v, hv⟩ : ∃ v, letG l x = v := ⟨_, rfl⟩
  have hv2 : max (min x R) 0 = v := by rw [← hv, ← hR]; rfl
  have HYv : Hid ((v :: l).take 9 = Y) := by show _ = _; rw [← HY.out, ← hv]; simp [passL]
  clear hG hr1 hR hv HY
  by_cases hx : x < 0
  · have HM : Hid (min 0 R = v) := by show _ = _; omega
    clear hv2
    have HK0 : Hid (KG3 w w3.drew Q (.cells #[.slice a n cap, .int .i64 al] 32) (.cells #[.slice none 0 0, .int .i64 0] 32) (.cells #[.slice (some ⟨g, 0, none⟩) n c, .int .i64 al] 32)) := ⟨HP3.out, HZ3.out, HQ3.out, HB3.out.drew⟩
    go_upto_region 6 with fail
    clear p3 q3 HP3 HZ3 HQ3 HB3 HO3
    refine wp_region_held_drew (S := fun w' => w'.cell? ⟨w.heap.size, 0, none⟩ = some (.slice a n cap) ∧ w'.cell? ⟨w.heap.size, 1, none⟩ = some (.int .i64 al) ∧ Below w.heap.size w w') (by kernel_rfl) (kg_conj HK0.out) (fun hHeld => ?_)
    refine tkQ 0 ?_ rfl ?_ ?_
    rotate_left
    · intro w_ hSw; (try dsimp only at hSw); go_simp <;> with_reducible rfl
    try simp only [Act.put, sQ]
    refine tkQ 1 ?_ rfl ?_ ?_
    rotate_left
    · intro w_ hSw; (try dsimp only at hSw); go_simp <;> with_reducible rfl
    try simp only [Act.put, sQ]
    refine tkQ 5 ?_ rfl ?_ ?_
    rotate_left
    · intro w_ hSw; (try dsimp only at hSw); go_simp <;> with_reducible rfl
    try simp only [Act.put, sQ]
    refine tkQ 6 ?_ rfl ?_ ?_
    rotate_left
    · intro w_ hSw; (try dsimp only at hSw); go_simp <;> with_reducible rfl
    try simp only [Act.put, sQ]
    refine wpAnyH_ready (rs := [2]) (by kernel_rfl) (by simp) ?_
    refine AllReadyH.cons rfl (fun J hJ => ?_) AllReadyH.nil
    go_simp
    go_at_call 109
    refine (roomS a al l n cap R HRM.out HL.out (by omega) _ (HR.out.keep HK0.out.2.2.2 (Nat.le_refl _))).mono ?_
    rintro e v1 ⟨rfl, hbc⟩
    have HK1 := hq (HK0.out.on hbc)
    clear hbc HK0
    go_wp2_with fail
    refine hJ.out _ _ (kg_conj HK1.out) (fun hHeld1 => ?_)
    clear hJ J
    try simp only [Act.put, sQ]
    refine wpAnyH_ready (rs := [3]) (by kernel_rfl) (by simp) ?_
    refine AllReadyH.cons rfl (fun J hJ => ?_) AllReadyH.nil
    go_simp
    go_at_call 108
    refine (lesS 0 R v HM.out _).mono ?_
    rintro e v2 ⟨rfl, hv2⟩
    obtain rfl : v1 = v2 := hv2.symm
    have HK2 := hq HK1.out
    clear HK1
    go_wp2_with fail
    refine hJ.out _ _ (kg_conj HK2.out) (fun hHeld2 => ?_)
    clear hJ J
    try simp only [Act.put, sQ]
    refine wpAnyH_ready (rs := [4]) (by kernel_rfl) (by simp) ?_
    refine AllReadyH.cons rfl (fun J hJ => ?_) AllReadyH.nil
    go_simp
    have HK3 : Hid (KG3 w (v1.alloc (.cells #[.int .i64 v] 3)) Q (.cells #[.slice a n cap, .int .i64 al] 32) (.cells #[.slice none 0 0, .int .i64 0] 32) (.cells #[.slice (some ⟨g, 0, none⟩) n c, .int .i64 al] 32)) := HK2.out.on (alG _ _)
    have hQv : Q < v1.heap.size := row_lt HK2.out.2.2.1
    have hZv : w.heap.size + 1 < v1.heap.size := row_lt HK2.out.2.1
    have HOv : Hid (OwnN (v1.alloc (.cells #[.int .i64 v] 3)) (w.heap.size + 2) v1.heap.size 1 1 [v]) := RowAt.ownN (l := [v]) (heap_new v1 _) (by omega) rfl (by omega)
    refine hJ.out _ _ (kg_conj HK3.out) (fun hHeld3 => ?_)
    clear hJ J HK2
    try simp only [Act.put, sQ]
    refine wpAnyH_ready (rs := [7]) (by kernel_rfl) (by simp) ?_
    refine AllReadyH.cons rfl (fun J hJ => ?_) AllReadyH.nil
    refine anyN rfl (.tmp 18) (.tmp 20) rfl (w.heap.size + 2) v1.heap.size 1 1 [v] a n cap l rfl rfl HOv.out HL.out HN.out (HR.out.keep HK3.out.2.2.2 (Nat.le_refl _)) (by omega) (by simp; omega) ?_
    intro g4 c4 w4 hown4 hgr4 hat4
    have HK4 : Hid (KG3 w w4 Q (.cells #[.slice a n cap, .int .i64 al] 32) (.cells #[.slice none 0 0, .int .i64 0] 32) (.cells #[.slice (some ⟨g, 0, none⟩) n c, .int .i64 al] 32)) := HK3.out.grown hgr4 (by omega) (by omega)
    have HO4 := hq hown4
    have hg4 : g4 ≠ Q ∧ w.heap.size + 2 ≤ g4 := by
      refine ⟨?_, hown4.ge⟩
      rcases hat4 with h | h
      · omega
      · simp at h
        omega
    refine hJ.out _ _ (kg_conj HK4.out) (fun hHeld4 => ?_)
    clear hJ J HK3 HOv hown4 hgr4 hat4
    try simp only [Act.put, sQ]
    refine tkQ 8 ?_ rfl ?_ ?_
    rotate_left
    · intro w_ hSw; (try dsimp only at hSw); go_simp <;> with_reducible rfl
    try simp only [Act.put, sQ]
    refine wpAnyH_ready (rs := [9]) (by kernel_rfl) (by simp) ?_
    refine AllReadyH.cons rfl (fun J hJ => ?_) AllReadyH.nil
    have kq := row2_cells HK4.out.2.2.1
    go_simp
    have hput : PutG w4 (w4.setCell ⟨Q, 0, none⟩ (.slice (some ⟨g4, 0, none⟩) (1 + n) c4)) Q (.cells #[.slice (some ⟨g4, 0, none⟩) (1 + n) c4, .int .i64 al] 32) := putG_set HK4.out.2.2.1
    have HB5 : Hid (Below w.heap.size w (w4.setCell ⟨Q, 0, none⟩ (.slice (some ⟨g4, 0, none⟩) (1 + n) c4))) := hput.2.2.2 _ _ (by omega) HK4.out.2.2.2
    have HP5 : Hid ((w4.setCell ⟨Q, 0, none⟩ (.slice (some ⟨g4, 0, none⟩) (1 + n) c4)).heap[w.heap.size]? = some (.cells #[.slice a n cap, .int .i64 al] 32)) := hput.far HK4.out.1 (by omega)
    have HZ5 : Hid ((w4.setCell ⟨Q, 0, none⟩ (.slice (some ⟨g4, 0, none⟩) (1 + n) c4)).heap[w.heap.size + 1]? = some (.cells #[.slice none 0 0, .int .i64 0] 32)) := hput.far HK4.out.2.1 (by omega)
    have HO5 : Hid (OwnN (w4.setCell ⟨Q, 0, none⟩ (.slice (some ⟨g4, 0, none⟩) (1 + n) c4)) (w.heap.size + 2) g4 (1 + n) c4 ([v] ++ l)) := hput.own HO4.out hg4.1
    have HQ5 := hq hput.1
    have kp5 := row2_cells HP5.out
    refine hJ.out _ _ ⟨kp5.1, kp5.2.1, HB5.out⟩ (fun hHeld5 => ?_)
    clear hJ J kq kp5 HK4 HO4 hput
    try simp only [Act.put, sQ]
    generalize w4.setCell ⟨Q, 0, none⟩ (.slice (some ⟨g4, 0, none⟩) (1 + n) c4) = w5 at *
    refine wpAnyH_done (by kernel_rfl) ?_ _
    clear hHeld hHeld1 hHeld2 hHeld3 hHeld4 hHeld5
    have q5 := row2_cells HQ5.out
    by_cases h8 : n ≤ 8
    · have h8' : ¬ (9 : Int) < ((1 + n : Nat) : Int) := by omega
      obtain rfl : ([v] ++ l) = Y := by rw [← HYv.out]; simp; exact (List.take_of_length_le (by have := HL.out; omega)).symm
      obtain rfl : 1 + n = m := by rw [← HM0.out]; simp; have := HL.out; omega
      clear HYv HM0
      go_upto_region 9 with fail
      go_wp2_with (refine listStoreG rfl rfl _ _ _ rfl rfl (w.heap.size + 1) (some ⟨g4, 0, none⟩) (1 + n) c4 al rfl rfl HZ5.out ?_)
      intro w9 hput
      have HB9 := hq (hput.2.2.2 _ _ (Nat.le_succ _) HB5.out)
      have HO9 : Hid (OwnN w9 (w.heap.size + 2) g4 (1 + n) c4 ([v] ++ l)) := hput.own HO5.out (by omega)
      obtain ⟨z0, z1, _⟩ := row2_cells hput.1
      clear hput
      go_wp2
      refine bodyPost_ret (v := .agg #[.slice (some ⟨g4, 0, none⟩) (1 + n) c4, .int .i64 al]) (by simp only [results, Tryz.results57]; simp [go_sem, z0, z1]) rfl ⟨g4, c4, rfl, HO9.out, HB9.out⟩
    · obtain rfl : n = 9 := by omega
      have hc4 : 10 ≤ c4 := by have := HO5.out.cap; omega
      have hc4' : 9 ≤ c4 := by omega
      have HRt : Hid (Rd w5 (some ⟨g4, 0, none⟩) ((v :: l).take 9)) := rd_take HO5.out.rd 9
      have HLt : Hid (((v :: l).take 9).length = 9) := by show _ = _; simp; have := HL.out; omega
      obtain rfl : 9 = m := by rw [← HM0.out, ← HYv.out]; exact HLt.out.symm
      have h8' : (9 : Int) < ((1 + 9 : Nat) : Int) := by omega
      have hz5 := row_lt HZ5.out
      have hQ5 := row_lt HQ5.out
      have HOn : Hid (OwnN (w5.alloc (.cells #[] 3)) (w.heap.size + 2) w5.heap.size 0 0 []) := own_new w5 _ (by omega)
      have HRn : Hid (Rd (w5.alloc (.cells #[] 3)) (some ⟨g4, 0, none⟩) ((v :: l).take 9)) := HRt.out.on (alG _ _)
      have HQn : Hid ((w5.alloc (.cells #[] 3)).heap[Q]? = some (.cells #[.slice (some ⟨g4, 0, none⟩) (1 + 9) c4, .int .i64 al] 32)) := row_on HQ5.out (alG _ _)
      have HZn : Hid ((w5.alloc (.cells #[] 3)).heap[w.heap.size + 1]? = some (.cells #[.slice none 0 0, .int .i64 0] 32)) := row_on HZ5.out (alG _ _)
      have HBn : Hid (Below w.heap.size w (w5.alloc (.cells #[] 3))) := bel_on (Nat.le_refl _) HB5.out (alG _ _)
      have qn := row2_cells HQn.out
      go_wp2_with (refine listN rfl (.tmp 27) (.tmp 30) rfl (w.heap.size + 2) w5.heap.size 0 0 [] (some ⟨g4, 0, none⟩) 9 c4 ((v :: l).take 9) rfl rfl HOn.out HLt.out (fun e => by cases e) HRn.out (by omega) (by simp; omega) ?_)
      intro g6 c6 w6 hown6 hgr6 hat6
      have b6 : ∀ m o, (w5.alloc (.cells #[] 3)).heap[m]? = some o → m ≠ w5.heap.size → w6.heap[m]? = some o := fun m o hm hne => (hgr6.block m (row_lt hm) (fun e => hne (Option.some.inj e))).trans hm
      have HQ6 : Hid (w6.heap[Q]? = some (.cells #[.slice (some ⟨g4, 0, none⟩) (1 + 9) c4, .int .i64 al] 32)) := b6 _ _ HQn.out (by omega)
      have HZ6 : Hid (w6.heap[w.heap.size + 1]? = some (.cells #[.slice none 0 0, .int .i64 0] 32)) := b6 _ _ HZn.out (by omega)
      have HB6 : Hid (Below w.heap.size w w6) := HBn.out.grown hgr6 HBn.out.size (fun k hk => by cases hk; omega)
      have HO6 : Hid (OwnN w6 (w.heap.size + 2) g6 9 c6 Y) := by
        have h := hown6
        rw [show (v :: List.take 8 l) = Y from HYv.out] at h
        exact h
      have hg6 : g6 ≠ Q ∧ w.heap.size + 2 ≤ g6 := by
        refine ⟨?_, hown6.ge⟩
        rcases hat6 with h | h
        · omega
        · (try simp at h)
          omega
      clear hown6 hgr6 hat6 b6 HQn HZn HBn HRn HOn HRt HLt HQ5 HZ5 HB5 HO5 qn q5
      go_wp2_with (refine listStoreL rfl rfl _ _ _ rfl rfl Q 0 (some ⟨g6, 0, none⟩) 9 c6 rfl rfl HQ6.out (by simp) ?_)
      intro w7 hput
      have HB7 := hq (hput.2.2.2 _ _ (by omega) HB6.out)
      have HZ7 := hq (hput.far HZ6.out (by omega))
      have HO7 : Hid (OwnN w7 (w.heap.size + 2) g6 9 c6 Y) := hput.own HO6.out hg6.1
      have HQ7 := hq hput.1
      have q7 := row2_cells HQ7.out
      clear hput HB6 HZ6 HO6 HQ6
      go_upto_region 9 with fail
      go_wp2_with (refine listStoreG rfl rfl _ _ _ rfl rfl (w.heap.size + 1) (some ⟨g6, 0, none⟩) 9 c6 al rfl rfl HZ7.out ?_)
      intro w9 hput
      have HB9 := hq (hput.2.2.2 _ _ (Nat.le_succ _) HB7.out)
      have HO9 : Hid (OwnN w9 (w.heap.size + 2) g6 9 c6 Y) := hput.own HO7.out (by omega)
      obtain ⟨z0, z1, _⟩ := row2_cells hput.1
      clear hput
      go_wp2
      refine bodyPost_ret (v := .agg #[.slice (some ⟨g6, 0, none⟩) 9 c6, .int .i64 al]) (by simp only [results, Tryz.results57]; simp [go_sem, z0, z1]) rfl ⟨g6, c6, rfl, HO9.out, HB9.out⟩
  · have HM : Hid (min x R = v) := by show _ = _; omega
    clear hv2
    have HK0 : Hid (KG3 w w3.drew Q (.cells #[.slice a n cap, .int .i64 al] 32) (.cells #[.slice none 0 0, .int .i64 0] 32) (.cells #[.slice (some ⟨g, 0, none⟩) n c, .int .i64 al] 32)) := ⟨HP3.out, HZ3.out, HQ3.out, HB3.out.drew⟩
    go_upto_region 6 with fail
    clear p3 q3 HP3 HZ3 HQ3 HB3 HO3
    refine wp_region_held_drew (S := fun w' => w'.cell? ⟨w.heap.size, 0, none⟩ = some (.slice a n cap) ∧ w'.cell? ⟨w.heap.size, 1, none⟩ = some (.int .i64 al) ∧ Below w.heap.size w w') (by kernel_rfl) (kg_conj HK0.out) (fun hHeld => ?_)
    refine tkQ 0 ?_ rfl ?_ ?_
    rotate_left
    · intro w_ hSw; (try dsimp only at hSw); go_simp <;> with_reducible rfl
    try simp only [Act.put, sQ]
    refine tkQ 1 ?_ rfl ?_ ?_
    rotate_left
    · intro w_ hSw; (try dsimp only at hSw); go_simp <;> with_reducible rfl
    try simp only [Act.put, sQ]
    refine tkQ 5 ?_ rfl ?_ ?_
    rotate_left
    · intro w_ hSw; (try dsimp only at hSw); go_simp <;> with_reducible rfl
    try simp only [Act.put, sQ]
    refine tkQ 6 ?_ rfl ?_ ?_
    rotate_left
    · intro w_ hSw; (try dsimp only at hSw); go_simp <;> with_reducible rfl
    try simp only [Act.put, sQ]
    refine wpAnyH_ready (rs := [2]) (by kernel_rfl) (by simp) ?_
    refine AllReadyH.cons rfl (fun J hJ => ?_) AllReadyH.nil
    go_simp
    go_at_call 109
    refine (roomS a al l n cap R HRM.out HL.out (by omega) _ (HR.out.keep HK0.out.2.2.2 (Nat.le_refl _))).mono ?_
    rintro e v1 ⟨rfl, hbc⟩
    have HK1 := hq (HK0.out.on hbc)
    clear hbc HK0
    go_wp2_with fail
    refine hJ.out _ _ (kg_conj HK1.out) (fun hHeld1 => ?_)
    clear hJ J
    try simp only [Act.put, sQ]
    refine wpAnyH_ready (rs := [3]) (by kernel_rfl) (by simp) ?_
    refine AllReadyH.cons rfl (fun J hJ => ?_) AllReadyH.nil
    go_simp
    go_at_call 108
    refine (lesS x R v HM.out _).mono ?_
    rintro e v2 ⟨rfl, hv2⟩
    obtain rfl : v1 = v2 := hv2.symm
    have HK2 := hq HK1.out
    clear HK1
    go_wp2_with fail
    refine hJ.out _ _ (kg_conj HK2.out) (fun hHeld2 => ?_)
    clear hJ J
    try simp only [Act.put, sQ]
    refine wpAnyH_ready (rs := [4]) (by kernel_rfl) (by simp) ?_
    refine AllReadyH.cons rfl (fun J hJ => ?_) AllReadyH.nil
    go_simp
    have HK3 : Hid (KG3 w (v1.alloc (.cells #[.int .i64 v] 3)) Q (.cells #[.slice a n cap, .int .i64 al] 32) (.cells #[.slice none 0 0, .int .i64 0] 32) (.cells #[.slice (some ⟨g, 0, none⟩) n c, .int .i64 al] 32)) := HK2.out.on (alG _ _)
    have hQv : Q < v1.heap.size := row_lt HK2.out.2.2.1
    have hZv : w.heap.size + 1 < v1.heap.size := row_lt HK2.out.2.1
    have HOv : Hid (OwnN (v1.alloc (.cells #[.int .i64 v] 3)) (w.heap.size + 2) v1.heap.size 1 1 [v]) := RowAt.ownN (l := [v]) (heap_new v1 _) (by omega) rfl (by omega)
    refine hJ.out _ _ (kg_conj HK3.out) (fun hHeld3 => ?_)
    clear hJ J HK2
    try simp only [Act.put, sQ]
    refine wpAnyH_ready (rs := [7]) (by kernel_rfl) (by simp) ?_
    refine AllReadyH.cons rfl (fun J hJ => ?_) AllReadyH.nil
    refine anyN rfl (.tmp 18) (.tmp 20) rfl (w.heap.size + 2) v1.heap.size 1 1 [v] a n cap l rfl rfl HOv.out HL.out HN.out (HR.out.keep HK3.out.2.2.2 (Nat.le_refl _)) (by omega) (by simp; omega) ?_
    intro g4 c4 w4 hown4 hgr4 hat4
    have HK4 : Hid (KG3 w w4 Q (.cells #[.slice a n cap, .int .i64 al] 32) (.cells #[.slice none 0 0, .int .i64 0] 32) (.cells #[.slice (some ⟨g, 0, none⟩) n c, .int .i64 al] 32)) := HK3.out.grown hgr4 (by omega) (by omega)
    have HO4 := hq hown4
    have hg4 : g4 ≠ Q ∧ w.heap.size + 2 ≤ g4 := by
      refine ⟨?_, hown4.ge⟩
      rcases hat4 with h | h
      · omega
      · simp at h
        omega
    refine hJ.out _ _ (kg_conj HK4.out) (fun hHeld4 => ?_)
    clear hJ J HK3 HOv hown4 hgr4 hat4
    try simp only [Act.put, sQ]
    refine tkQ 8 ?_ rfl ?_ ?_
    rotate_left
    · intro w_ hSw; (try dsimp only at hSw); go_simp <;> with_reducible rfl
    try simp only [Act.put, sQ]
    refine wpAnyH_ready (rs := [9]) (by kernel_rfl) (by simp) ?_
    refine AllReadyH.cons rfl (fun J hJ => ?_) AllReadyH.nil
    have kq := row2_cells HK4.out.2.2.1
    go_simp
    have hput : PutG w4 (w4.setCell ⟨Q, 0, none⟩ (.slice (some ⟨g4, 0, none⟩) (1 + n) c4)) Q (.cells #[.slice (some ⟨g4, 0, none⟩) (1 + n) c4, .int .i64 al] 32) := putG_set HK4.out.2.2.1
    have HB5 : Hid (Below w.heap.size w (w4.setCell ⟨Q, 0, none⟩ (.slice (some ⟨g4, 0, none⟩) (1 + n) c4))) := hput.2.2.2 _ _ (by omega) HK4.out.2.2.2
    have HP5 : Hid ((w4.setCell ⟨Q, 0, none⟩ (.slice (some ⟨g4, 0, none⟩) (1 + n) c4)).heap[w.heap.size]? = some (.cells #[.slice a n cap, .int .i64 al] 32)) := hput.far HK4.out.1 (by omega)
    have HZ5 : Hid ((w4.setCell ⟨Q, 0, none⟩ (.slice (some ⟨g4, 0, none⟩) (1 + n) c4)).heap[w.heap.size + 1]? = some (.cells #[.slice none 0 0, .int .i64 0] 32)) := hput.far HK4.out.2.1 (by omega)
    have HO5 : Hid (OwnN (w4.setCell ⟨Q, 0, none⟩ (.slice (some ⟨g4, 0, none⟩) (1 + n) c4)) (w.heap.size + 2) g4 (1 + n) c4 ([v] ++ l)) := hput.own HO4.out hg4.1
    have HQ5 := hq hput.1
    have kp5 := row2_cells HP5.out
    refine hJ.out _ _ ⟨kp5.1, kp5.2.1, HB5.out⟩ (fun hHeld5 => ?_)
    clear hJ J kq kp5 HK4 HO4 hput
    try simp only [Act.put, sQ]
    generalize w4.setCell ⟨Q, 0, none⟩ (.slice (some ⟨g4, 0, none⟩) (1 + n) c4) = w5 at *
    refine wpAnyH_done (by kernel_rfl) ?_ _
    clear hHeld hHeld1 hHeld2 hHeld3 hHeld4 hHeld5
    have q5 := row2_cells HQ5.out
    by_cases h8 : n ≤ 8
    · have h8' : ¬ (9 : Int) < ((1 + n : Nat) : Int) := by omega
      obtain rfl : ([v] ++ l) = Y := by rw [← HYv.out]; simp; exact (List.take_of_length_le (by have := HL.out; omega)).symm
      obtain rfl : 1 + n = m := by rw [← HM0.out]; simp; have := HL.out; omega
      clear HYv HM0
      go_upto_region 9 with fail
      go_wp2_with (refine listStoreG rfl rfl _ _ _ rfl rfl (w.heap.size + 1) (some ⟨g4, 0, none⟩) (1 + n) c4 al rfl rfl HZ5.out ?_)
      intro w9 hput
      have HB9 := hq (hput.2.2.2 _ _ (Nat.le_succ _) HB5.out)
      have HO9 : Hid (OwnN w9 (w.heap.size + 2) g4 (1 + n) c4 ([v] ++ l)) := hput.own HO5.out (by omega)
      obtain ⟨z0, z1, _⟩ := row2_cells hput.1
      clear hput
      go_wp2
      refine bodyPost_ret (v := .agg #[.slice (some ⟨g4, 0, none⟩) (1 + n) c4, .int .i64 al]) (by simp only [results, Tryz.results57]; simp [go_sem, z0, z1]) rfl ⟨g4, c4, rfl, HO9.out, HB9.out⟩
    · obtain rfl : n = 9 := by omega
      have hc4 : 10 ≤ c4 := by have := HO5.out.cap; omega
      have hc4' : 9 ≤ c4 := by omega
      have HRt : Hid (Rd w5 (some ⟨g4, 0, none⟩) ((v :: l).take 9)) := rd_take HO5.out.rd 9
      have HLt : Hid (((v :: l).take 9).length = 9) := by show _ = _; simp; have := HL.out; omega
      obtain rfl : 9 = m := by rw [← HM0.out, ← HYv.out]; exact HLt.out.symm
      have h8' : (9 : Int) < ((1 + 9 : Nat) : Int) := by omega
      have hz5 := row_lt HZ5.out
      have hQ5 := row_lt HQ5.out
      have HOn : Hid (OwnN (w5.alloc (.cells #[] 3)) (w.heap.size + 2) w5.heap.size 0 0 []) := own_new w5 _ (by omega)
      have HRn : Hid (Rd (w5.alloc (.cells #[] 3)) (some ⟨g4, 0, none⟩) ((v :: l).take 9)) := HRt.out.on (alG _ _)
      have HQn : Hid ((w5.alloc (.cells #[] 3)).heap[Q]? = some (.cells #[.slice (some ⟨g4, 0, none⟩) (1 + 9) c4, .int .i64 al] 32)) := row_on HQ5.out (alG _ _)
      have HZn : Hid ((w5.alloc (.cells #[] 3)).heap[w.heap.size + 1]? = some (.cells #[.slice none 0 0, .int .i64 0] 32)) := row_on HZ5.out (alG _ _)
      have HBn : Hid (Below w.heap.size w (w5.alloc (.cells #[] 3))) := bel_on (Nat.le_refl _) HB5.out (alG _ _)
      have qn := row2_cells HQn.out
      go_wp2_with (refine listN rfl (.tmp 27) (.tmp 30) rfl (w.heap.size + 2) w5.heap.size 0 0 [] (some ⟨g4, 0, none⟩) 9 c4 ((v :: l).take 9) rfl rfl HOn.out HLt.out (fun e => by cases e) HRn.out (by omega) (by simp; omega) ?_)
      intro g6 c6 w6 hown6 hgr6 hat6
      have b6 : ∀ m o, (w5.alloc (.cells #[] 3)).heap[m]? = some o → m ≠ w5.heap.size → w6.heap[m]? = some o := fun m o hm hne => (hgr6.block m (row_lt hm) (fun e => hne (Option.some.inj e))).trans hm
      have HQ6 : Hid (w6.heap[Q]? = some (.cells #[.slice (some ⟨g4, 0, none⟩) (1 + 9) c4, .int .i64 al] 32)) := b6 _ _ HQn.out (by omega)
      have HZ6 : Hid (w6.heap[w.heap.size + 1]? = some (.cells #[.slice none 0 0, .int .i64 0] 32)) := b6 _ _ HZn.out (by omega)
      have HB6 : Hid (Below w.heap.size w w6) := HBn.out.grown hgr6 HBn.out.size (fun k hk => by cases hk; omega)
      have HO6 : Hid (OwnN w6 (w.heap.size + 2) g6 9 c6 Y) := by
        have h := hown6
        rw [show (v :: List.take 8 l) = Y from HYv.out] at h
        exact h
      have hg6 : g6 ≠ Q ∧ w.heap.size + 2 ≤ g6 := by
        refine ⟨?_, hown6.ge⟩
        rcases hat6 with h | h
        · omega
        · (try simp at h)
          omega
      clear hown6 hgr6 hat6 b6 HQn HZn HBn HRn HOn HRt HLt HQ5 HZ5 HB5 HO5 qn q5
      go_wp2_with (refine listStoreL rfl rfl _ _ _ rfl rfl Q 0 (some ⟨g6, 0, none⟩) 9 c6 rfl rfl HQ6.out (by simp) ?_)
      intro w7 hput
      have HB7 := hq (hput.2.2.2 _ _ (by omega) HB6.out)
      have HZ7 := hq (hput.far HZ6.out (by omega))
      have HO7 : Hid (OwnN w7 (w.heap.size + 2) g6 9 c6 Y) := hput.own HO6.out hg6.1
      have HQ7 := hq hput.1
      have q7 := row2_cells HQ7.out
      clear hput HB6 HZ6 HO6 HQ6
      go_upto_region 9 with fail
      go_wp2_with (refine listStoreG rfl rfl _ _ _ rfl rfl (w.heap.size + 1) (some ⟨g6, 0, none⟩) 9 c6 al rfl rfl HZ7.out ?_)
      intro w9 hput
      have HB9 := hq (hput.2.2.2 _ _ (Nat.le_succ _) HB7.out)
      have HO9 : Hid (OwnN w9 (w.heap.size + 2) g6 9 c6 Y) := hput.own HO7.out (by omega)
      obtain ⟨z0, z1, _⟩ := row2_cells hput.1
      clear hput
      go_wp2
      refine bodyPost_ret (v := .agg #[.slice (some ⟨g6, 0, none⟩) 9 c6, .int .i64 al]) (by simp only [results, Tryz.results57]; simp [go_sem, z0, z1]) rfl ⟨g6, c6, rfl, HO9.out, HB9.out⟩
end Go.Proofs.YtfhhnelffldggaaGreatDoor.G
