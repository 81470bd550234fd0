/-
  Plain facts on figures read back; the contracts of the figure's value, and of Unhex, the specification's.
-/
import Derived.Test.YtjnfiefnehlgnakHex0
import Derived.Test.YtjnfiefnehlgnakShelf
namespace Go.Proofs.Ytjnfiefnehlgnak
open Go.RowKit Plain Go.PlainAid
set_option linter.unusedVariables false

/-- the number of a figure, or -1 -/
def val (x : Int) : Int := if 48 ≤ x ∧ x ≤ 57 then x - 48 else if 97 ≤ x ∧ x ≤ 102 then x - 97 + 10 else -1
theorem val_bd (x : Int) : -1 ≤ val x ∧ val x ≤ 15 := by
  unfold val; split
  · omega
  · split <;> omega
/-- f pairs of figures from k on -/
def unF (s : ByteArray) : Nat → Nat → Option (List UInt8)
  | 0, _ => some []
  | f + 1, k => if 0 ≤ val (bt s k) ∧ 0 ≤ val (bt s (k + 1)) then (unF s f (k + 2)).map (fun l => UInt8.ofNat (16 * val (bt s k) + val (bt s (k + 1))).toNat :: l) else none
def encU : Option (List UInt8) → Value
  | none => .tuple #[.string ⟨#[]⟩, .bool false]
  | some l => .tuple #[.string ⟨l.toArray⟩, .bool true]

theorem un_step {s : ByteArray} {f k : Nat} {xs : List UInt8} {r : Option (List UInt8)} (h : 0 ≤ val (bt s k)) (h' : 0 ≤ val (bt s (k + 1))) (H : r = (unF s (f + 1) k).map (fun l => xs ++ l)) :
    r = (unF s f (k + 2)).map (fun l => (xs ++ [UInt8.ofNat (16 * val (bt s k) + val (bt s (k + 1))).toNat]) ++ l) := by
  rw [H, unF, if_pos ⟨h, h'⟩]
  cases unF s f (k + 2) <;> simp
theorem un_bad {s : ByteArray} {f k : Nat} {xs : List UInt8} {r : Option (List UInt8)} (h : ¬ (0 ≤ val (bt s k) ∧ 0 ≤ val (bt s (k + 1)))) (H : r = (unF s (f + 1) k).map (fun l => xs ++ l)) : r = none := by
  rw [H, unF, if_neg h]; rfl
theorem un_end {s : ByteArray} {k : Nat} {xs : List UInt8} {r : Option (List UInt8)} (H : r = (unF s 0 k).map (fun l => xs ++ l)) : r = some xs := by
  rw [H, unF]; simp
theorem byte_of {a b : Int} (h0 : 0 ≤ a) (h1 : a ≤ 15) (h2 : 0 ≤ b) (h3 : b ≤ 15) : ((UInt8.ofNat (16 * a + b).toNat).toNat : Int) = 16 * a + b := by
  rw [UInt8.toNat_ofNat']; omega

theorem val26 (x : Int) (h0 : 0 ≤ x) (h1 : x ≤ 255) (w : World) :
    Calls Try.prog 26 #[.int .u8 x] w fun e w' => e = .returned (.int .i64 (val x)) ∧ w' = w := by
  by_cases a : 48 ≤ x ∧ x ≤ 57
  · have e : val x = x - 48 := by unfold val; rw [if_pos a]
    rw [e]
    clear e
    obtain ⟨a1, a2⟩ := a
    go_enter Try.func26, Try.ntmps26
    go_wp2
    go_ret
    exact ⟨rfl, rfl⟩
  · by_cases b : 97 ≤ x ∧ x ≤ 102
    · have e : val x = x - 97 + 10 := by unfold val; rw [if_neg a, if_pos b]
      rw [e]
      clear e a
      obtain ⟨b1, b2⟩ := b
      go_enter Try.func26, Try.ntmps26
      go_wp2
      go_ret
      exact ⟨rfl, rfl⟩
    · have e : val x = -1 := by unfold val; rw [if_neg a, if_neg b]
      rw [e]
      clear e
      by_cases c : x < 48
      · clear a b
        go_enter Try.func26, Try.ntmps26
        go_wp2
        go_ret
        exact ⟨rfl, rfl⟩
      · have c1 : 57 < x := by omega
        by_cases d : x < 97
        · clear a b
          go_enter Try.func26, Try.ntmps26
          go_wp2
          go_ret
          exact ⟨rfl, rfl⟩
        · have d1 : 102 < x := by omega
          clear a b
          go_enter Try.func26, Try.ntmps26
          go_wp2
          go_ret
          exact ⟨rfl, rfl⟩

theorem bytes_val (xs : List UInt8) {a b : Int} (h0 : 0 ≤ a) (h1 : a ≤ 15) (h2 : 0 ≤ b) (h3 : b ≤ 15) : [Value.int .u8 (16 * a + b)] = bytesV [UInt8.ofNat (16 * a + b).toNat] := by
  simp only [bytesV, List.map_cons, List.map_nil, byte_of h0 h1 h2 h3]

set_option maxHeartbeats 1000000 in
theorem un19 (s : ByteArray) (hs : s.size ≤ 40000) (he : s.size % 2 = 0) (w : World) :
    Calls Try.prog 19 #[.string s] w fun e w' => e = .returned (encU (unF s (s.size / 2) 0)) ∧ Below w.heap.size w w' := by
  obtain ⟨i0, hi, hz0, hz1, hz2⟩ := info_parts info5
  have how := own_empty w
  have hbt := get_bt s
  have he' : ((s.size : Int) % 2 != 0) = false := by simp; omega
  go_enter Try.func19, Try.ntmps19
  go_wp2
  go_loopw [4, 5] (fun v i wr => ∃ (f k : Nat) (xs : List UInt8), k + 2 * f = s.size ∧ i = .int .i64 k ∧ 2 * xs.length = k ∧ Hid (unF s (s.size / 2) 0 = (unF s f k).map (fun l => xs ++ l)) ∧ wr.ownsRow w.heap.size 5 1 v xs.length (bytesV xs) ∧ Below w.heap.size w wr) (fun _ i _ => s.size - (intOf i).toNat)
  case atStart => exact ⟨s.size / 2, 0, [], by omega, rfl, rfl, (show Hid _ from by simp [Hid]), how, (Below.refl _ _).alloc (Nat.le_refl _) _⟩
  case round =>
    clear how
    obtain ⟨f, k, xs, hf, rfl, hl, H, hown, hnx⟩ := hrel
    have hsz := hnx.size
    cases f with
    | zero =>
      have hk : ¬ k < s.size := by omega
      have H' : Hid (unF s (s.size / 2) 0 = some xs) := un_end H.out
      obtain ⟨ao, cap, hv, hcv⟩ := own_text hown
      clear H hown hf hl
      subst hv
      go_wp2
      go_ret2
      exact ⟨by rw [H'.out]; rfl, hnx⟩
    | succ f =>
      have hk : k + 1 < s.size := by omega
      have b0 := bt_nonneg s k
      have b1 := bt_le s k
      have c0 := bt_nonneg s (k + 1)
      have c1 := bt_le s (k + 1)
      have v0 := val_bd (bt s k)
      have v1 := val_bd (bt s (k + 1))
      by_cases h1 : 0 ≤ val (bt s k)
      · by_cases h2 : 0 ≤ val (bt s (k + 1))
        · have H' : Hid _ := un_step h1 h2 H.out
          clear H
          go_wp2_with fail
          refine (val26 _ b0 b1 _).mono ?_
          rintro e w2 ⟨rfl, rfl⟩
          go_wp2_with fail
          refine (val26 _ c0 c1 _).mono ?_
          rintro e w3 ⟨rfl, rfl⟩
          go_wp2_with (at_builtin; refine wpList_append_own _ rfl _ _ 34 rfl w.heap.size 5 i0 (.int .u8 0) 1 1 Try.underlying34 hi hz0 hz1 hz2 rfl (by decide) _ _ _ rfl (hown.alloc _) ⟨w3.heap.size, 0, none⟩ 1 1 [.int .u8 (16 * val (bt s k) + val (bt s (k + 1)))] rfl rfl ?c1 ?c2 ?c3 ?c4 ?c5 ?_)
          case c1 => exact one_cell w3 _ _ rfl
          case c2 => intro u hu; simp at hu; subst hu; rfl
          case c3 => unfold maxLen; omega
          case c4 => omega
          case c5 => simp; omega
          intro v' w1 hown' hgrow _
          have R := rel_step (UInt8.ofNat (16 * val (bt s k) + val (bt s (k + 1))).toNat) (by rw [byte_of h1 v0.2 h2 v1.2]) hnx hown hown' hgrow
          clear hown' hgrow hown
          go_wp2
          go_roundw
          case rel => exact ⟨f, k + 2, xs ++ [UInt8.ofNat (16 * val (bt s k) + val (bt s (k + 1))).toNat], by omega, by go_num, by simp; omega, H', R.1, R.2⟩
          case measure => simp [intOf]; omega
        · have H' : Hid (unF s (s.size / 2) 0 = none) := un_bad (by omega) H.out
          clear H
          go_wp2_with fail
          refine (val26 _ b0 b1 _).mono ?_
          rintro e w2 ⟨rfl, rfl⟩
          go_wp2_with fail
          refine (val26 _ c0 c1 _).mono ?_
          rintro e w3 ⟨rfl, rfl⟩
          go_wp2
          go_ret2
          exact ⟨by rw [H'.out]; rfl, hnx⟩
      · have H' : Hid (unF s (s.size / 2) 0 = none) := un_bad (by omega) H.out
        clear H
        go_wp2_with fail
        refine (val26 _ b0 b1 _).mono ?_
        rintro e w2 ⟨rfl, rfl⟩
        go_wp2_with fail
        refine (val26 _ c0 c1 _).mono ?_
        rintro e w3 ⟨rfl, rfl⟩
        go_wp2
        go_ret2
        exact ⟨by rw [H'.out]; rfl, hnx⟩

theorem noun19 (s : ByteArray) (hm : s.size ≤ 1048576) (hs : 40000 < s.size ∨ ¬ s.size % 2 = 0) (w : World) :
    Calls Try.prog 19 #[.string s] w fun e w' => e = .returned (encU none) ∧ Below w.heap.size w w' := by
  by_cases h : 40000 < s.size
  · go_enter Try.func19, Try.ntmps19
    go_wp2
    go_ret2
    exact ⟨rfl, Below.refl _ _⟩
  · have he' : ((s.size : Int) % 2 != 0) = true := by simp; omega
    clear hs
    go_enter Try.func19, Try.ntmps19
    go_wp2
    go_ret2
    exact ⟨rfl, Below.refl _ _⟩
end Go.Proofs.Ytjnfiefnehlgnak
