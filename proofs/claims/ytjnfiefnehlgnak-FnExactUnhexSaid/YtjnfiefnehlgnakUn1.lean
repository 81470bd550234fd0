/-
  The contract of Unhex, the program's.
-/
import Derived.Test.YtjnfiefnehlgnakUn0
import Derived.Deep.LoopGhost
import Derived.WalkMore
namespace Go.Proofs.Ytjnfiefnehlgnak
open Go.RowKit Plain Go.PlainAid
set_option linter.unusedVariables false

theorem idx_all : ∀ n : Nat, n < 256 → Lib.indexByte [48, 49, 50, 51, 52, 53, 54, 55, 56, 57, 97, 98, 99, 100, 101, 102] (UInt8.ofNat n) = val (n : Int) := by
  decide +kernel
theorem idx_val (x : Int) (h0 : 0 ≤ x) (h1 : x ≤ 255) : Lib.indexByte [48, 49, 50, 51, 52, 53, 54, 55, 56, 57, 97, 98, 99, 100, 101, 102] x.toNat.toUInt8 = val x := by
  obtain ⟨n, rfl⟩ := Int.eq_ofNat_of_zero_le h0
  exact idx_all n (by omega)
theorem ib27 (x : Int) (h0 : 0 ≤ x) (h1 : x ≤ 255) (w : World) :
    Calls Try.prog 27 #[.string ⟨#[48, 49, 50, 51, 52, 53, 54, 55, 56, 57, 97, 98, 99, 100, 101, 102]⟩, .int .u8 x] w fun e w' => e = .returned (.int .i64 (val x)) ∧ w' = w := by
  have h := Try.strings_IndexByte ⟨#[48, 49, 50, 51, 52, 53, 54, 55, 56, 57, 97, 98, 99, 100, 101, 102]⟩ x w
  rw [← idx_val x h0 h1]
  exact h

set_option maxHeartbeats 1000000 in
theorem un20 (s : ByteArray) (hs : s.size ≤ 40000) (he : s.size % 2 = 0) (w : World) :
    Calls Try.prog 20 #[.string s] w fun e w' => e = .returned (encU (unF s (s.size / 2) 0)) ∧ Below w.heap.size w w' := by
  obtain ⟨i0, hi, hz0, hz1, hz2⟩ := info_parts info5
  have hbt := get_bt s
  have he' : ((s.size : Int) % 2 != 0) = false := by simp; omega
  go_enter Try.func20, Try.ntmps20
  go_wp2
  go_step3
  go_wp2_with (at_make; refine wpList_make_own _ rfl _ _ 34 rfl w.heap.size 5 i0 (.int .u8 0) 1 Try.underlying34 hi hz0 hz1 .i64 .i64 _ (s.size / 2) rfl rfl (by omega) (by rw [hz2]; omega) (by unfold maxLen; omega) (Nat.le_refl _) ?_; intro w1 hown hgrow)
  go_step3
  go_wp2
  have hb1 : Below w.heap.size w w1 := (Below.refl _ _).grown hgrow (Nat.le_refl _) (fun k h => by cases h)
  clear hgrow
  go_loopw [4, 5] (fun v i wr => ∃ (f k : Nat) (xs : List UInt8), k + 2 * f = s.size ∧ i = .int .i64 k ∧ 2 * xs.length = k ∧ Hid (unF s (s.size / 2) 0 = (unF s f k).map (fun l => xs ++ l)) ∧ wr.ownsRow w.heap.size 5 1 v xs.length (bytesV xs) ∧ Below w.heap.size w wr) (fun _ i _ => s.size - (intOf i).toNat)
  case atStart => exact ⟨s.size / 2, 0, [], by omega, rfl, rfl, (show Hid _ from by simp [Hid]), hown, hb1⟩
  case round =>
    clear hown hb1
    obtain ⟨f, k, xs, hf, rfl, hl, H, hown, hnx⟩ := hrel
    have hsz := hnx.size
    cases f with
    | zero =>
      have hk : ¬ k < s.size := by omega
      have hne : (2 * (xs.length : Int) != (s.size : Int)) = false := by simp; omega
      have H' : Hid (unF s (s.size / 2) 0 = some xs) := un_end H.out
      obtain ⟨ao, cap, hv, hcv⟩ := own_text hown
      have hlx : xs.length ≤ 40000 := by omega
      clear H hown hf hl
      subst hv
      go_wp2
      rw [Exit.noGoto_ret]
      go_ret2
      exact ⟨by rw [H'.out]; rfl, hnx⟩
    | succ f =>
      have hk : k + 1 < s.size := by omega
      have b0 := bt_nonneg s k
      have b1 := bt_le s k
      have c0 := bt_nonneg s (k + 1)
      have c1 := bt_le s (k + 1)
      have v0 := val_bd (bt s k)
      have v1 := val_bd (bt s (k + 1))
      by_cases h1 : 0 ≤ val (bt s k)
      · by_cases h2 : 0 ≤ val (bt s (k + 1))
        · have H' : Hid _ := un_step h1 h2 H.out
          clear H
          go_wp2
          refine wp_loop_rounds 3 ?_
          rw [rounds_succ]
          go_wp2_with fail
          refine (ib27 _ b0 b1 _).mono ?_
          rintro e w2 ⟨rfl, rfl⟩
          go_wp2_with fail
          rw [rounds_succ]
          go_wp2_with fail
          refine (ib27 _ c0 c1 _).mono ?_
          rintro e w3 ⟨rfl, rfl⟩
          go_wp2_with fail
          rw [rounds_succ]
          go_wp2_with (at_builtin; refine wpList_append_own _ rfl _ _ 34 rfl w.heap.size 5 i0 (.int .u8 0) 1 1 Try.underlying34 hi hz0 hz1 hz2 rfl (by decide) _ _ _ rfl (hown.alloc _) ⟨w3.heap.size, 0, none⟩ 1 1 [.int .u8 (val (bt s k) * 16 + val (bt s (k + 1)))] rfl rfl ?c1 ?c2 ?c3 ?c4 ?c5 ?_)
          case c1 => exact one_cell w3 _ _ rfl
          case c2 => intro u hu; simp at hu; subst hu; rfl
          case c3 => unfold maxLen; omega
          case c4 => omega
          case c5 => simp; omega
          intro v' w1 hown' hgrow _
          have R := rel_step (UInt8.ofNat (16 * val (bt s k) + val (bt s (k + 1))).toNat) (by rw [byte_of h1 v0.2 h2 v1.2, Int.mul_comm]) hnx hown hown' hgrow
          clear hown' hgrow hown
          go_wp2
          go_roundw
          case rel => exact ⟨f, k + 2, xs ++ [UInt8.ofNat (16 * val (bt s k) + val (bt s (k + 1))).toNat], by omega, by go_num, by simp; omega, H', R.1, R.2⟩
          case measure => simp [intOf]; omega
        · have H' : Hid (unF s (s.size / 2) 0 = none) := un_bad (by omega) H.out
          have hne : (2 * (xs.length : Int) != (s.size : Int)) = true := by simp; omega
          obtain ⟨ao, cap, hv, hcv⟩ := own_text hown
          have hlx : xs.length ≤ 40000 := by omega
          clear H hown hf hl hcv
          subst hv
          go_wp2
          refine wp_loop_rounds 3 ?_
          rw [rounds_succ]
          go_wp2_with fail
          refine (ib27 _ b0 b1 _).mono ?_
          rintro e w2 ⟨rfl, rfl⟩
          go_wp2_with fail
          rw [rounds_succ]
          go_wp2_with fail
          refine (ib27 _ c0 c1 _).mono ?_
          rintro e w3 ⟨rfl, rfl⟩
          go_wp2
          rw [Exit.noGoto_ret]
          go_ret2
          exact ⟨by rw [H'.out]; rfl, hnx⟩
      · have H' : Hid (unF s (s.size / 2) 0 = none) := un_bad (by omega) H.out
        have hne : (2 * (xs.length : Int) != (s.size : Int)) = true := by simp; omega
        obtain ⟨ao, cap, hv, hcv⟩ := own_text hown
        have hlx : xs.length ≤ 40000 := by omega
        clear H hown hf hl hcv
        subst hv
        go_wp2
        refine wp_loop_rounds 3 ?_
        rw [rounds_succ]
        go_wp2_with fail
        refine (ib27 _ b0 b1 _).mono ?_
        rintro e w2 ⟨rfl, rfl⟩
        go_wp2
        rw [Exit.noGoto_ret]
        go_ret2
        exact ⟨by rw [H'.out]; rfl, hnx⟩

theorem noun20 (s : ByteArray) (hm : s.size ≤ 1048576) (hs : 40000 < s.size ∨ ¬ s.size % 2 = 0) (w : World) :
    Calls Try.prog 20 #[.string s] w fun e w' => e = .returned (encU none) ∧ Below w.heap.size w w' := by
  by_cases h : ¬ s.size % 2 = 0
  · have he' : ((s.size : Int) % 2 != 0) = true := by simp; omega
    clear hs
    go_enter Try.func20, Try.ntmps20
    go_wp2
    go_step3
    go_wp2
    rw [Exit.noGoto_ret]
    go_ret2
    exact ⟨rfl, Below.refl _ _⟩
  · have he' : ((s.size : Int) % 2 != 0) = false := by simp; omega
    have h4 : 40000 < s.size := by omega
    clear hs h
    go_enter Try.func20, Try.ntmps20
    go_wp2
    go_step3
    go_wp2
    rw [Exit.noGoto_ret]
    go_ret2
    exact ⟨rfl, Below.refl _ _⟩
end Go.Proofs.Ytjnfiefnehlgnak
