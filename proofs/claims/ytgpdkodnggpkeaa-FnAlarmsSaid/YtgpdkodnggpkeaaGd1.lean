/-
  Guards: their mathematics; sums, GuardOk, RoomOf, Allow of the specification, and its bits together.
-/
import Derived.Test.YtgpdkodnggpkeaaGd2
import Derived.Test.YtgpdkodnggpkeaaSnsH
namespace Go.Proofs.Ytgpdkodnggpkeaa
open Go.RowKit Go.PlainAid
set_option linter.unusedVariables false
set_option linter.unusedSimpArgs false

def sumN : List Int → Int
  | [] => 0
  | x :: l => x + sumN l
theorem sumN_app (l m : List Int) : sumN (l ++ m) = sumN l + sumN m := by
  induction l with
  | nil => simp [sumN]
  | cons x l ih => simp only [List.cons_append, sumN, ih]; omega
theorem sumN_take {l : List Int} {j : Nat} (h : j < l.length) : sumN (l.take (j + 1)) = sumN (l.take j) + l[j] := by
  rw [← List.take_append_getElem h, sumN_app]
  simp [sumN]
/-- the sum, as it goes round -/
def sumW (l : List Int) : Int := IntKind.i64.wrap (sumN l)
theorem wrap_add (s x : Int) : IntKind.i64.wrap (IntKind.i64.wrap s + x) = IntKind.i64.wrap (s + x) := by
  rw [IntKind.wrap_i64, IntKind.wrap_i64, IntKind.wrap_i64]
  omega
theorem sumW_take {l : List Int} {j : Nat} (h : j < l.length) : IntKind.i64.wrap (sumW (l.take j) + l[j]) = sumW (l.take (j + 1)) := by
  unfold sumW
  rw [wrap_add, sumN_take h]
theorem sumW_zero (l : List Int) : sumW (l.take 0) = 0 := by
  unfold sumW
  rw [List.take_zero]
  exact wrap_in (by simp [sumN]) (by simp [sumN])
theorem sumW_all (l : List Int) : sumW (l.take l.length) = sumW l := by rw [List.take_length]
def AllG (l : List Int) (j : Nat) : Prop := ∀ i (h : i < l.length), i < j → 0 ≤ l[i] ∧ l[i] ≤ 30
theorem allG_zero (l : List Int) : AllG l 0 := fun i _ h => by omega
theorem allG_succ {l : List Int} {j : Nat} (h : AllG l j) (hj : j < l.length) (hr : 0 ≤ l[j] ∧ l[j] ≤ 30) : AllG l (j + 1) := fun i hi hlt => by
  rcases Nat.lt_or_ge i j with h1 | h1
  · exact h i hi h1
  · have : i = j := by omega
    subst this
    exact hr
def GdR (l : List Int) (al : Int) : Prop := l.length ≤ 9 ∧ (0 ≤ al ∧ al ≤ 15) ∧ (∀ i (h : i < l.length), 0 ≤ l[i] ∧ l[i] ≤ 30) ∧ sumN l ≤ 30
theorem sumN_bd {l : List Int} (h : ∀ i (h : i < l.length), 0 ≤ l[i] ∧ l[i] ≤ 30) : 0 ≤ sumN l ∧ sumN l ≤ 30 * l.length := by
  induction l with
  | nil => simp [sumN]
  | cons x l ih =>
    have h0 := h 0 (by simp)
    have h1 := ih (fun i hi => by have := h (i + 1) (by simp; omega); simpa using this)
    simp only [sumN, List.length_cons, List.getElem_cons_zero] at *
    omega
theorem sumW_in {l : List Int} (h : ∀ i (h : i < l.length), 0 ≤ l[i] ∧ l[i] ≤ 30) (hl : l.length ≤ 9) : sumW l = sumN l := by
  have := sumN_bd h
  unfold sumW
  exact wrap_in (by omega) (by omega)
theorem gd_bool (l : List Int) (al : Int) : ∃ b : Bool, b = true ↔ GdR l al := by
  by_cases h : GdR l al
  · exact ⟨true, fun _ => h, fun _ => rfl⟩
  · exact ⟨false, fun e => (by cases e), fun e => absurd e h⟩
theorem not_gd {l : List Int} {al : Int} {b : Bool} (hb : b = true ↔ GdR l al) (h : ¬ GdR l al) : b = false := by
  cases b
  · rfl
  · exact absurd (hb.1 rfl) h
theorem gd_end {l : List Int} {al : Int} {b : Bool} (hb : b = true ↔ GdR l al) (h1 : l.length ≤ 9) (h2 : 0 ≤ al ∧ al ≤ 15) (h3 : AllG l l.length) : decide (sumW l ≤ 30) = b := by
  have h3' : ∀ i (h : i < l.length), 0 ≤ l[i] ∧ l[i] ≤ 30 := fun i h => h3 i h h
  rw [sumW_in h3' h1]
  by_cases h : sumN l ≤ 30
  · rw [decide_eq_true h]; exact (hb.2 ⟨h1, h2, h3', h⟩).symm
  · rw [decide_eq_false h]; exact (not_gd hb (fun x => h x.2.2.2)).symm
/-- what is left to be let through, of a right guard -/
theorem room_bd {l : List Int} {al : Int} (h : GdR l al) : IntKind.i64.wrap (30 - sumW l) = 30 - sumN l ∧ 0 ≤ 30 - sumN l ∧ 30 - sumN l ≤ 30 := by
  have h1 := sumN_bd h.2.2.1
  have h2 := h.2.2.2
  rw [sumW_in h.2.2.1 h.1]
  exact ⟨wrap_in (by omega) (by omega), by omega, by omega⟩
set_option maxRecDepth 100000 in
set_option maxHeartbeats 1000000 in
theorem sumS (a : Option Addr) (l : List Int) (n cap : Nat) (hl : l.length = n) (hn : n ≤ 9223372036854775807) (w : World) (hr : Rd w a l) :
    Calls Try.prog 41 #[.slice a n cap] w fun e w' => e = .returned (.int .i64 (sumW l)) ∧ w' = w := by
  have HL : Hid (l.length = n) := hl
  have HR : Hid (Rd w a l) := hr
  clear hl hr
  go_enter Try.func41, Try.ntmps41
  go_wp2
  go_loopg [3, 4] n (fun gk s i wr => ∃ (j : Nat) (S : Int), j + gk = n ∧ i = .int .i64 j ∧ s = .int .i64 S ∧ Hid (S = sumW (l.take j)) ∧ wr = w)
  case atStart => exact ⟨0, 0, by omega, rfl, rfl, (sumW_zero l).symm, rfl⟩
  case round =>
    obtain ⟨j, S, hj, rfl, rfl, HS, rfl⟩ := hrel
    by_cases hlt : j < n
    · have hjl : j < l.length := by have := HL.out; omega
      obtain ⟨g, off, ha, hc⟩ := HR.out (by omega)
      subst ha
      have c1 := hc j hjl
      clear hc
      obtain ⟨x, hx⟩ : ∃ x, l[j] = x := ⟨_, rfl⟩
      rw [hx] at c1
      obtain ⟨T, hT⟩ : ∃ T, IntKind.i64.wrap (S + x) = T := ⟨_, rfl⟩
      have HT : Hid (T = sumW (l.take (j + 1))) := by show _ = _; rw [← hT, HS.out, ← hx]; exact sumW_take hjl
      clear hx HS
      go_wp2
      go_roundg (gk - 1)
      case measure => omega
      case rel => exact ⟨j + 1, T, by omega, by go_num, rfl, HT, rfl⟩
    · obtain rfl : j = n := by omega
      have HE : Hid (S = sumW l) := by show _ = _; rw [HS.out, ← HL.out]; exact sumW_all l
      clear HS
      go_wp2
      go_ret
      exact ⟨by rw [HE.out]; rfl, rfl⟩
set_option maxRecDepth 100000 in
set_option maxHeartbeats 1000000 in
theorem roomS (a : Option Addr) (al : Int) (l : List Int) (n cap : Nat) (R : Int) (hR : IntKind.i64.wrap (30 - sumW l) = R) (hl : l.length = n) (hn : n ≤ 9223372036854775807) (w : World) (hr : Rd w a l) :
    Calls Try.prog 17 #[.agg #[.slice a n cap, .int .i64 al]] w fun e w' => e = .returned (.int .i64 R) ∧ Below w.heap.size w w' := by
  obtain ⟨S, hS⟩ : ∃ S, sumW l = S := ⟨_, rfl⟩
  rw [hS] at hR
  have HS : Hid (sumW l = S) := hS
  have HB : Hid (Below w.heap.size w (w.alloc (.cells #[.slice a n cap, .int .i64 al] 26))) := (Below.refl _ _).alloc (Nat.le_refl _) _
  have HR : Hid (Rd (w.alloc (.cells #[.slice a n cap, .int .i64 al] 26)) a l) := hr.keep HB.out (Nat.le_refl _)
  have HL : Hid (l.length = n) := hl
  clear hl hr hS
  go_enter Try.func17, Try.ntmps17
  go_wp2_with fail
  refine (sumS a l n cap HL.out hn _ HR.out).mono ?_
  rintro e w1 ⟨rfl, rfl⟩
  rw [HS.out]
  go_wp2
  go_ret
  exact ⟨rfl, HB.out⟩
set_option maxRecDepth 100000 in
set_option maxHeartbeats 1000000 in
theorem guardokS (a : Option Addr) (al : Int) (l : List Int) (n cap : Nat) (b : Bool) (hl : l.length = n) (hn : n ≤ 9223372036854775807) (hb : b = true ↔ GdR l al) (w : World) (hr : Rd w a l) :
    Calls Try.prog 22 #[.agg #[.slice a n cap, .int .i64 al]] w fun e w' => e = .returned (.bool b) ∧ Below w.heap.size w w' := by
  have HB : Hid (b = true ↔ GdR l al) := hb
  have HL : Hid (l.length = n) := hl
  have HR : Hid (Rd w a l) := hr
  obtain ⟨h1, h2, h3⟩ := box2 w (.slice a n cap) (.int .i64 al) 26
  have HX : Hid (_ = _) := h1
  have HW0 : Hid (Below _ _ _) := h2
  clear hb hl hr h1 h2 h3
  by_cases h9 : n ≤ 9
  case neg =>
    have HE : Hid (b = false) := not_gd HB.out (fun h => by have := h.1; have := HL.out; omega)
    have h9' : (9 : Int) < n := by omega
    go_enter Try.func22, Try.ntmps22
    go_wp2
    go_ret
    exact ⟨by rw [HE.out]; rfl, HW0.out⟩
  have h9' : ¬ (9 : Int) < n := by omega
  by_cases hal : 0 ≤ al ∧ al ≤ 15
  case neg =>
    have HE : Hid (b = false) := not_gd HB.out (fun h => hal h.2.1)
    have hd : decide ((0 : Int) ≤ al ∧ al ≤ 15) = false := decide_eq_false hal
    go_enter Try.func22, Try.ntmps22
    go_wp2_with fail
    refine (H.senseS al false hd _).mono ?_
    rintro e w1 ⟨rfl, rfl⟩
    go_wp2
    go_ret
    exact ⟨by rw [HE.out]; rfl, HW0.out⟩
  have HAL : Hid (0 ≤ al ∧ al ≤ 15) := hal
  have hd : decide ((0 : Int) ≤ al ∧ al ≤ 15) = true := decide_eq_true hal
  clear hal
  go_enter Try.func22, Try.ntmps22
  go_wp2_with fail
  refine (H.senseS al true hd _).mono ?_
  rintro e w1 ⟨rfl, rfl⟩
  clear hd
  go_wp2
  go_loopg [3] n (fun gk i wr => ∃ j : Nat, j + gk = n ∧ i = .int .i64 j ∧ Hid (AllG l j) ∧ Hid (Below w.heap.size w wr) ∧ Hid (wr.heap[w.heap.size]? = some (.cells #[.slice a n cap, .int .i64 al] 26)))
  case atStart => exact ⟨0, by omega, rfl, allG_zero l, HW0, HX⟩
  case round =>
    clear HW0 HX
    obtain ⟨j, hj, rfl, HI, HW, HX⟩ := hrel
    have k1 := row2_cells HX.out
    by_cases hlt : j < n
    · have hjl : j < l.length := by have := HL.out; omega
      obtain ⟨g, off, ha, hc⟩ := HR.out (by omega)
      subst ha
      have c1 := (HW.out.cell (p := ⟨g, off + j, none⟩) (World.block_lt_of_cell? w ⟨g, off + j, none⟩ (hc j hjl))).trans (hc j hjl)
      clear hc
      obtain ⟨x, hx⟩ : ∃ x, l[j] = x := ⟨_, rfl⟩
      rw [hx] at c1
      have HF : Hid (l[j] = x) := hx
      clear hx
      by_cases hf : 0 ≤ x ∧ x ≤ 30
      · have hd : decide ((0 : Int) ≤ x ∧ x ≤ 30) = true := decide_eq_true hf
        have HI' : Hid (AllG l (j + 1)) := allG_succ HI.out hjl (by rw [HF.out]; exact hf)
        clear hf HI
        go_wp2_with fail
        refine (inS 0 30 x true hd _).mono ?_
        rintro e w1 ⟨rfl, rfl⟩
        clear hd
        go_wp2
        go_roundg (gk - 1)
        case measure => omega
        case rel => exact ⟨j + 1, by omega, by go_num, HI', HW, HX⟩
      · have hd : decide ((0 : Int) ≤ x ∧ x ≤ 30) = false := decide_eq_false hf
        have HE : Hid (b = false) := not_gd HB.out (fun h => hf (by have := h.2.2.1 j hjl; rw [HF.out] at this; exact this))
        clear hf HI
        go_wp2_with fail
        refine (inS 0 30 x false hd _).mono ?_
        rintro e w1 ⟨rfl, rfl⟩
        clear hd
        go_wp2
        go_ret
        exact ⟨by rw [HE.out]; rfl, HW.out⟩
    · have HE : Hid (decide (sumW l ≤ 30) = b) := gd_end HB.out (by have := HL.out; omega) HAL.out (fun i h _ => HI.out i h (by have := HL.out; omega))
      have HRr : Hid (Rd wr a l) := HR.out.keep HW.out (Nat.le_refl _)
      obtain ⟨S, hS⟩ : ∃ S, sumW l = S := ⟨_, rfl⟩
      have HS : Hid (sumW l = S) := hS
      clear HI hS
      go_wp2_with fail
      refine (sumS a l n cap HL.out hn _ HRr.out).mono ?_
      rintro e w1 ⟨rfl, rfl⟩
      rw [HS.out]
      have hE := HE.out
      rw [HS.out] at hE
      subst hE
      clear HE HB
      go_wp2
      go_ret
      exact ⟨rfl, HW.out⟩
end Go.Proofs.Ytgpdkodnggpkeaa
