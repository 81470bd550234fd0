/-
  The lines of a text; the instruction that parts tell: the contracts of the specification's.
-/
import Derived.Test.YtbcphgmcjickgaaDoorAsm2
namespace Go.Proofs.YtbcphgmcjickgaaDoor
open Go.RowKit Plain Go.PlainAid
open Go.Lib (decDigits itoa indexByte)
set_option linter.unusedVariables false

/-- the lines still to come: one began at b, all up to k is looked at -/
def LA (s : ByteArray) (b k : Nat) : List ByteArray := linesA (s.data.toList.drop k) ((s.data.toList.take k).drop b)
theorem la_byte {s : ByteArray} {k : Nat} (h : k < s.size) : ∃ c : UInt8, s.data.toList.drop k = c :: s.data.toList.drop (k + 1) ∧ bt s k = c.toNat ∧ s.data.toList.take (k + 1) = s.data.toList.take k ++ [c] := by
  have hk : k < s.data.toList.length := by rw [Array.length_toList]; exact h
  refine ⟨s.data.toList[k], List.drop_eq_getElem_cons hk, ?_, List.take_succ_eq_append_getElem hk⟩
  rw [← get_bt s k h]
  rfl
theorem la_cut {s : ByteArray} {b k : Nat} (h : k < s.size) (hc : bt s k = 10) (hb : b ≤ k) : LA s b k = s.extract b k :: LA s (k + 1) (k + 1) := by
  obtain ⟨c, h1, h2, h3⟩ := la_byte h
  have e : c = 10 := by
    apply UInt8.toNat_inj.1
    have : (c.toNat : Int) = 10 := by rw [← h2]; exact hc
    show c.toNat = 10
    omega
  unfold LA
  have e1 : (⟨((s.data.toList.take k).drop b).toArray⟩ : ByteArray) = s.extract b k := ba_list (by rw [ex_list])
  have e2 : (s.data.toList.take (k + 1)).drop (k + 1) = [] := List.drop_eq_nil_of_le (by simp; omega)
  rw [h1, linesA, if_pos e, e1, e2]
theorem la_on {s : ByteArray} {b k : Nat} (h : k < s.size) (hc : ¬ bt s k = 10) (hb : b ≤ k) : LA s b k = LA s b (k + 1) := by
  obtain ⟨c, h1, h2, h3⟩ := la_byte h
  have e : c ≠ 10 := fun e => hc (by rw [h2, e]; rfl)
  have hl : (s.data.toList.take k).length = k := by rw [List.length_take, Array.length_toList]; exact Nat.min_eq_left (Nat.le_of_lt h)
  unfold LA
  rw [h1, linesA, if_neg e, h3, List.drop_append_of_le_length (by omega)]
theorem la_end {s : ByteArray} {b k : Nat} (h : ¬ k < s.size) (hk : k ≤ s.size) : LA s b k = if b < s.size then [s.extract b s.size] else [] := by
  have hl : s.data.toList.length = s.size := Array.length_toList
  obtain rfl : k = s.size := by omega
  unfold LA
  rw [List.drop_eq_nil_of_le (by omega), List.take_of_length_le (by omega)]
  by_cases hb : b < s.size
  · rw [if_pos hb, linesA, if_neg (fun e => by have := congrArg List.length e; simp [hl] at this; omega)]
    have e1 : (⟨(s.data.toList.drop b).toArray⟩ : ByteArray) = s.extract b s.size := ba_list (by rw [ex_list, List.take_of_length_le (by omega)])
    rw [e1]
  · rw [if_neg hb, List.drop_eq_nil_of_le (by omega), linesA, if_pos rfl]
theorem la_start (s : ByteArray) : linesOf s = LA s 0 0 := by unfold linesOf LA; simp

set_option maxRecDepth 100000 in
set_option maxHeartbeats 2000000 in
theorem linesS (s : ByteArray) (hs : s.size ≤ 1048576) (w : World) :
    Calls Tryd.prog 41 #[.string s] w fun e w' => ∃ v, e = .returned v ∧ w'.ownsRow w.heap.size 9 1 v (linesOf s).length (strV (linesOf s)) ∧ (linesOf s).length ≤ s.size + 1 ∧ Below w.heap.size w w' := by
  obtain ⟨i0, hi, hz0, hz1, hz2⟩ := info_parts info9
  have how := own_empty w
  have hbt := get_bt s
  go_enter Tryd.func41, Tryd.ntmps41
  go_wp2
  go_loopw [3, 4, 5] (fun v bv i wr => ∃ (k b : Nat) (xs : List ByteArray), k ≤ s.size ∧ b ≤ k ∧ bv = .int .i64 b ∧ i = .int .i64 k ∧ xs.length ≤ k ∧ Hid (linesOf s = xs ++ LA s b k) ∧ wr.ownsRow w.heap.size 9 1 v xs.length (strV xs) ∧ Below w.heap.size w wr) (fun _ _ i _ => s.size - (intOf i).toNat)
  case atStart => exact ⟨0, 0, [], by omega, by omega, rfl, rfl, by simp, (show Hid _ from la_start s), how, (Below.refl _ _).alloc (Nat.le_refl _) _⟩
  case round =>
    clear how
    obtain ⟨k, b, xs, hk, hbk, rfl, rfl, hx, HV, hown, hnx⟩ := hrel
    have hsz := hnx.size
    by_cases hlt : k < s.size
    · by_cases hc : bt s k = 10
      · have HV2 : Hid (linesOf s = (xs ++ [s.extract b k]) ++ LA s (k + 1) (k + 1)) := by have := HV.out; rw [la_cut hlt hc hbk] at this; rw [this]; simp [Hid]
        have h2 : (bt s k == 10) = true := by simp [hc]
        clear hc HV
        go_wp2_with (at_builtin; refine wpList_append_own _ rfl _ _ 61 rfl w.heap.size 9 i0 (.string ⟨#[]⟩) 1 16 Tryd.underlying61 hi hz0 hz1 hz2 rfl (by decide) _ _ _ rfl (hown.alloc _) ⟨wr.heap.size, 0, none⟩ 1 1 [.string (s.extract b k)] rfl rfl ?c1 ?c2 ?c3 ?c4 ?c5 ?_)
        case c1 => exact one_str wr _ _ rfl
        case c2 => intro u hu; simp at hu; subst hu; rfl
        case c3 => unfold maxLen; omega
        case c4 => omega
        case c5 => simp; omega
        intro v' w5 hown5 hgrow _
        have R := rel_str (x := s.extract b k) (hnx.alloc hsz _) (by simp; omega) hown hown5 hgrow rfl
        clear hown5 hgrow hown
        go_wp2
        go_roundw
        case rel => exact ⟨k + 1, k + 1, xs ++ [s.extract b k], by omega, by omega, by go_num, by go_num, by simp; omega, HV2, R.1, R.2⟩
        case measure => simp [intOf]; omega
      · have HV2 : Hid (linesOf s = xs ++ LA s b (k + 1)) := by have := HV.out; rw [la_on hlt hc hbk] at this; exact this
        have h2 : (bt s k == 10) = false := by simp [hc]
        clear hc HV
        go_wp2
        go_roundw
        case rel => exact ⟨k + 1, b, xs, by omega, by omega, rfl, by go_num, by omega, HV2, hown, hnx⟩
        case measure => simp [intOf]; omega
    · by_cases hb : b < s.size
      · have HV2 : Hid (linesOf s = xs ++ [s.extract b s.size]) := by have := HV.out; rw [la_end hlt hk, if_pos hb] at this; exact this
        have hb' : (b : Int) < (s.size : Int) := by omega
        have a0 : (0 : Int) ≤ (b : Int) := by omega
        have a1 : (b : Int) ≤ (s.size : Int) := by omega
        clear HV
        go_wp2_with (at_builtin; refine wpList_append_own _ rfl _ _ 61 rfl w.heap.size 9 i0 (.string ⟨#[]⟩) 1 16 Tryd.underlying61 hi hz0 hz1 hz2 rfl (by decide) _ _ _ rfl (hown.alloc _) ⟨wr.heap.size, 0, none⟩ 1 1 [.string (s.extract b s.size)] rfl rfl ?d1 ?d2 ?d3 ?d4 ?d5 ?_)
        case d1 => exact one_str wr _ _ rfl
        case d2 => intro u hu; simp at hu; subst hu; rfl
        case d3 => unfold maxLen; omega
        case d4 => omega
        case d5 => simp; omega
        intro v' w5 hown5 hgrow _
        have R := rel_str (x := s.extract b s.size) (hnx.alloc hsz _) (by simp; omega) hown hown5 hgrow rfl
        have HR : Hid (_ ∧ _) := R
        clear hown5 hgrow hown R
        go_wp2
        go_ret
        exact ⟨_, rfl, by rw [HV2.out]; exact HR.out.1, by rw [HV2.out]; simp; omega, HR.out.2⟩
      · have HV2 : Hid (linesOf s = xs) := by have := HV.out; rw [la_end hlt hk, if_neg hb] at this; rw [this]; simp [Hid]
        have hb' : ¬ (b : Int) < (s.size : Int) := by omega
        have HO : Hid (wr.ownsRow w.heap.size 9 1 _ xs.length (strV xs)) := hown
        have HN : Hid (Below w.heap.size w wr) := hnx
        clear HV hown hnx
        go_wp2
        go_ret
        exact ⟨_, rfl, by rw [HV2.out]; exact HO.out, by rw [HV2.out]; omega, HN.out⟩
end Go.Proofs.YtbcphgmcjickgaaDoor
