/-
  The contracts of Decimal, the specification's and the program's.
-/
import Derived.Test.YtckeffccoghgeaaDoorDMath
import Derived.Test.YtckeffccoghgeaaDoorShelf
import Derived.Test.YtckeffccoghgeaaDoorChecked
import Derived.WalkKit
import Derived.ProofKit
import Derived.Handy
import Derived.LoopTactic
import Derived.Laws.IdiomStrings
import Derived.WalkSmall
namespace Go.Proofs.YtckeffccoghgeaaDoor.J
open Go.RowKit Plain
open Go.Lib (decDigits itoa)
set_option linter.unusedVariables false

theorem fig9 (x : Nat) (hx : x < 10) (w : World) :
    Calls Tryd.prog 32 #[.int .i64 x] w fun e w' => e = .returned (.int .u8 (fb x).toNat) ∧ w' = w := by
  rw [byte_fig hx]
  go_enter Tryd.func32, Tryd.ntmps32
  go_wp2
  go_ret
  exact ⟨by simp, rfl⟩

/-- the text of one byte that has just been laid -/
theorem one_text (b : UInt8) (w : World) : (convert 67 9 (.slice (some ⟨w.heap.size, 0, none⟩) 1 1)).run Tryd.prog (w.alloc (.cells #[.int .u8 (b.toNat : Int)] 5)) = .ok (.string ⟨[b].toArray⟩) (w.alloc (.cells #[.int .u8 (b.toNat : Int)] 5)) :=
  run_convert_bytes_back (P := Tryd.prog) _ 67 9 5 ⟨w.heap.size, 0, none⟩ 1 [b] Tryd.underlying67 Tryd.underlying5 Tryd.underlying9 (fun j hj => by
    obtain rfl : j = 0 := by simpa using hj
    simp [Addr.add])

theorem cat_one (b : UInt8) (acc : List UInt8) : (⟨#[b]⟩ : ByteArray) ++ ⟨acc.toArray⟩ = ⟨(b :: acc).toArray⟩ := by
  apply ByteArray.ext
  simp
theorem acc_size (acc : List UInt8) : (ByteArray.mk acc.toArray).size = acc.length := by
  show acc.toArray.size = _
  exact List.size_toArray
theorem fig9' (X : Int) (x : Nat) (hX : X = x) (hx : x < 10) (w : World) :
    Calls Tryd.prog 32 #[.int .i64 X] w fun e w' => e = .returned (.int .u8 (fb x).toNat) ∧ w' = w := by
  subst hX; exact fig9 x hx w

set_option maxRecDepth 100000 in
set_option maxHeartbeats 400000 in
theorem dec5_pos (n : Nat) (h0 : n ≠ 0) (hn : n ≤ 9223372036854775807) (w : World) :
    Calls Tryd.prog 13 #[.int .i64 n] w fun e w' => e = .returned (.string ⟨(decDigits n).toArray⟩) ∧ Below w.heap.size w w' := by
  have hz : ((n : Int) == 0) = false := by simp; omega
  have hlt : ¬ ((n : Int) < 0) := by omega
  go_enter Tryd.func13, Tryd.ntmps13
  go_wp2
  go_loopw [0, 4] (fun nv sv wr => ∃ (u : Nat) (acc : List UInt8), nv = .int .i64 u ∧ sv = .string ⟨acc.toArray⟩ ∧ u ≤ 9223372036854775807 ∧ acc.length ≤ 20 ∧ Hid (u < 10 ^ (20 - acc.length)) ∧ Hid (dig u acc = decDigits n) ∧ Below w.heap.size w wr) (fun nv _ _ => (intOf nv).toNat)
  case atStart => exact ⟨n, [], rfl, rfl, hn, by simp, (show Hid _ from pow_start (by omega)), (show Hid _ from dig_start h0), Below.refl _ _⟩
  case round =>
    obtain ⟨u, acc, rfl, rfl, hu, hl, HP, HD, hnx⟩ := hrel
    by_cases hu0 : u = 0
    · subst hu0
      have HE : Hid (acc = decDigits n) := by have := HD.out; rw [dig_zero] at this; exact this
      go_wp2
      go_ret
      exact ⟨by rw [← HE.out]; rfl, hnx⟩
    · have hne : ((u : Int) != 0) = true := by simp; omega
      have P1 := pow_step HP.out hu0 hl
      have HP' : Hid _ := P1.2
      have hl' := P1.1
      have HD' : Hid (dig (u / 10) (fb (u % 10) :: acc) = decDigits n) := by have := HD.out; rw [← dig_step hu0] at this; exact this
      have hone := one_text (fb (u % 10)) wr
      clear P1 HP HD hz
      have hsz : (ByteArray.mk acc.toArray).size ≤ 20 := by rw [acc_size]; exact hl
      go_wp2_with fail
      refine (fig9' _ (u % 10) (by omega) (by omega) _).mono ?_
      rintro e w2 ⟨rfl, rfl⟩
      go_wp2
      go_roundw
      case rel => exact ⟨u / 10, fb (u % 10) :: acc, by go_num, by rw [cat_one], by omega, by simp; omega, HP', HD', hnx.alloc hnx.size _⟩
      case measure => simp [intOf]; omega

set_option maxRecDepth 100000 in
set_option maxHeartbeats 400000 in
theorem dec5_neg (n : Nat) (h0 : n ≠ 0) (hn : n ≤ 9223372036854775808) (w : World) :
    Calls Tryd.prog 13 #[.int .i64 (-(n : Int))] w fun e w' => e = .returned (.string ⟨(45 :: decDigits n).toArray⟩) ∧ Below w.heap.size w w' := by
  have hz : (-(n : Int) == 0) = false := by simp; omega
  have hlt : -(n : Int) < 0 := by omega
  go_enter Tryd.func13, Tryd.ntmps13
  go_wp2
  go_loopw [0, 4] (fun nv sv wr => ∃ (u : Nat) (acc : List UInt8), nv = .int .i64 (-(u : Int)) ∧ sv = .string ⟨acc.toArray⟩ ∧ u ≤ 9223372036854775808 ∧ acc.length ≤ 20 ∧ Hid (u < 10 ^ (20 - acc.length)) ∧ Hid (dig u acc = decDigits n) ∧ Below w.heap.size w wr) (fun nv _ _ => (intOf nv).natAbs)
  case atStart => exact ⟨n, [], rfl, rfl, hn, by simp, (show Hid _ from pow_start hn), (show Hid _ from dig_start h0), Below.refl _ _⟩
  case round =>
    clear hz hlt
    obtain ⟨u, acc, rfl, rfl, hu, hl, HP, HD, hnx⟩ := hrel
    have hsz : (ByteArray.mk acc.toArray).size ≤ 20 := by rw [acc_size]; exact hl
    by_cases hu0 : u = 0
    · subst hu0
      have HE : Hid (acc = decDigits n) := by have := HD.out; rw [dig_zero] at this; exact this
      go_wp2
      go_ret
      exact ⟨by rw [← HE.out]; exact congrArg (fun x => Ending.returned (Value.string x)) (cat_one 45 acc), hnx⟩
    · have hne : (-(u : Int) != 0) = true := by simp; omega
      have P1 := pow_step HP.out hu0 hl
      have HP' : Hid _ := P1.2
      have hl' := P1.1
      have HD' : Hid (dig (u / 10) (fb (u % 10) :: acc) = decDigits n) := by have := HD.out; rw [← dig_step hu0] at this; exact this
      have hone := one_text (fb (u % 10)) wr
      have hr : (-(u : Int)).tmod 10 = -((u % 10 : Nat) : Int) := by rw [Int.neg_tmod]; rfl
      have hq : (-(u : Int)).tdiv 10 = -((u / 10 : Nat) : Int) := by rw [Int.neg_tdiv]; rfl
      have hr10 : u % 10 < 10 := by omega
      clear P1 HP HD
      go_wp2_with fail
      all_goals
        refine (fig9' _ (u % 10) (by omega) (by omega) _).mono ?_
        rintro e w2 ⟨rfl, rfl⟩
        go_wp2
        go_roundw
        case rel => exact ⟨u / 10, fb (u % 10) :: acc, by go_num, by rw [cat_one], by omega, by simp; omega, HP', HD', hnx.alloc hnx.size _⟩
        case measure => simp [intOf]; omega

theorem dec5_zero (w : World) :
    Calls Tryd.prog 13 #[.int .i64 0] w fun e w' => e = .returned (.string ⟨#[48]⟩) ∧ Below w.heap.size w w' := by
  go_enter Tryd.func13, Tryd.ntmps13
  go_wp2
  go_ret
  exact ⟨rfl, Below.refl _ _⟩

/-- the specification's Decimal, at every int -/
theorem dec5 (n : Int) (h0 : -9223372036854775808 ≤ n) (h1 : n ≤ 9223372036854775807) (w : World) :
    Calls Tryd.prog 13 #[.int .i64 n] w fun e w' => e = .returned (.string ⟨(itoa n).toArray⟩) ∧ Below w.heap.size w w' := by
  by_cases hz : n = 0
  · subst hz
    have e : itoa 0 = [48] := by decide +kernel
    rw [e]
    exact dec5_zero w
  · by_cases hp : 0 ≤ n
    · obtain ⟨u, rfl⟩ := Int.eq_ofNat_of_zero_le hp
      rw [itoa_pos]
      exact dec5_pos u (by omega) (by omega) w
    · obtain ⟨u, hu⟩ : ∃ u : Nat, n = -(u : Int) := ⟨n.natAbs, by omega⟩
      subst hu
      rw [itoa_neg (by omega)]
      exact dec5_neg u (by omega) (by omega) w

/-- the table of powers of ten, as the library's own initialiser lays it -/
def Tab (w : World) : Prop := Lib.TabIs Tryd.prog w "internal/strconv.uint64pow10" .u64 Lib.pow10Tab

/-- the program's Decimal, at every int -/
theorem dec6 (n : Int) (h0 : -9223372036854775808 ≤ n) (h1 : n ≤ 9223372036854775807) (w : World) (ht : Tab w) :
    Calls Tryd.prog 21 #[.int .i64 n] w fun e w' => e = .returned (.string ⟨(itoa n).toArray⟩) ∧ Below w.heap.size w w' := by
  go_enter Tryd.func21, Tryd.ntmps21
  go_wp2_with fail
  refine (Tryd.strconv_Itoa n h0 h1 _ ht).mono ?_
  rintro e w1 ⟨rfl, k, os, hw⟩
  have hb : Below w.heap.size w w1 := by
    rw [hw]
    refine ⟨rfl, rfl, rfl, by simp [Go.Sort.grow], fun j hj => ?_⟩
    show (w.heap ++ os)[j]? = _
    rw [Array.getElem?_append_left hj]
  clear hw ht
  go_wp2
  go_ret
  exact ⟨rfl, hb⟩
end Go.Proofs.YtckeffccoghgeaaDoor.J
