/-
  What code costs at most: the mathematics; the program's step back.
-/
import Derived.Test.YthnocibkgpofnaaFwd
import Derived.Test.YthnocibkgpofnaaCost
import Derived.Deep.RegionHeld3
namespace Go.Proofs.Ythnocibkgpofnaa.I
open Go.RowKit Go.PlainAid
set_option linter.unusedVariables false

/-- what is behind an instruction: the next one, and the one that it goes to -/
def behN (op next there : Int) : Int := if op = 0 then 0 else if op = 9 then there else if op = 10 then max next there else next
/-- what the dearest way from place i on costs, so many steps far -/
def wstF (rl : List (Int × Int)) : Nat → Nat → Int
  | 0, _ => 0
  | k + 1, i => if h : i < rl.length then costN rl[i].1 + behN rl[i].1 (wstF rl k (i + 1)) (if h2 : i < rl[i].2.toNat then wstF rl k rl[i].2.toNat else 0) else 0
theorem wstF_end (rl : List (Int × Int)) (k i : Nat) (h : rl.length ≤ i) : wstF rl k i = 0 := by
  cases k
  · rfl
  · rw [wstF, dif_neg (by omega)]
theorem wstF_far (rl : List (Int × Int)) : ∀ (k k' i : Nat), rl.length - i ≤ k → rl.length - i ≤ k' → wstF rl k i = wstF rl k' i
  | 0, k', i, h, h' => by rw [wstF_end rl k' i (by omega)]; rfl
  | k + 1, k', i, h, h' => by
      by_cases hi : i < rl.length
      · obtain ⟨j, rfl⟩ : ∃ j, k' = j + 1 := ⟨k' - 1, by omega⟩
        rw [wstF, wstF, dif_pos hi, dif_pos hi, wstF_far rl k j (i + 1) (by omega) (by omega)]
        congr 2
        by_cases h2 : i < rl[i].2.toNat
        · rw [dif_pos h2, dif_pos h2, wstF_far rl k j rl[i].2.toNat (by omega) (by omega)]
        · rw [dif_neg h2, dif_neg h2]
      · rw [wstF_end rl (k + 1) i (by omega), wstF_end rl k' i (by omega)]
/-- what the dearest way from place i on costs -/
def wst (rl : List (Int × Int)) (i : Nat) : Int := wstF rl (rl.length - i) i
theorem wst_eq (rl : List (Int × Int)) (i : Nat) : wst rl i = if h : i < rl.length then costN rl[i].1 + behN rl[i].1 (wst rl (i + 1)) (if h2 : i < rl[i].2.toNat then wst rl rl[i].2.toNat else 0) else 0 := by
  unfold wst
  by_cases hi : i < rl.length
  · rw [dif_pos hi]
    obtain ⟨k, hk⟩ : ∃ k, rl.length - i = k + 1 := ⟨rl.length - i - 1, by omega⟩
    rw [hk, wstF, dif_pos hi, wstF_far rl k (rl.length - (i + 1)) (i + 1) (by omega) (by omega)]
    congr 2
    by_cases h2 : i < rl[i].2.toNat
    · rw [dif_pos h2, dif_pos h2, wstF_far rl k (rl.length - rl[i].2.toNat) rl[i].2.toNat (by omega) (by omega)]
    · rw [dif_neg h2, dif_neg h2]
  · rw [dif_neg hi, wstF_end rl _ i (by omega)]
theorem wst_end {rl : List (Int × Int)} {i : Nat} (h : rl.length ≤ i) : wst rl i = 0 := by
  rw [wst_eq, dif_neg (by omega)]
theorem wst_at {rl : List (Int × Int)} (hf : FwdR rl) {i : Nat} (h : i < rl.length) (Y : Int) (hY : goes rl[i].1 → Y = wst rl rl[i].2.toNat) : wst rl i = costN rl[i].1 + behN rl[i].1 (wst rl (i + 1)) Y := by
  rw [wst_eq, dif_pos h]
  congr 1
  unfold behN
  by_cases h0 : rl[i].1 = 0
  · rw [if_pos h0, if_pos h0]
  · rw [if_neg h0, if_neg h0]
    by_cases h9 : rl[i].1 = 9
    · rw [if_pos h9, if_pos h9, hY (.inl h9), dif_pos (by have := hf.2 i h (.inl h9); omega)]
    · rw [if_neg h9, if_neg h9]
      by_cases h10 : rl[i].1 = 10
      · rw [if_pos h10, if_pos h10, hY (.inr h10), dif_pos (by have := hf.2 i h (.inr h10); omega)]
      · rw [if_neg h10, if_neg h10]
theorem behN_le (op X Y B : Int) (hX : 0 ≤ X ∧ X ≤ B) (hY : 0 ≤ Y ∧ Y ≤ B) : 0 ≤ behN op X Y ∧ behN op X Y ≤ B := by
  unfold behN
  by_cases h0 : op = 0
  · rw [if_pos h0]; omega
  · rw [if_neg h0]
    by_cases h9 : op = 9
    · rw [if_pos h9]; exact hY
    · rw [if_neg h9]
      by_cases h10 : op = 10
      · rw [if_pos h10]; omega
      · rw [if_neg h10]; exact hX
theorem wst_bd (rl : List (Int × Int)) : ∀ (m i : Nat), rl.length - i ≤ m → 0 ≤ wst rl i ∧ wst rl i ≤ 4 * (m : Int)
  | 0, i, h => by rw [wst_end (by omega)]; omega
  | m + 1, i, h => by
      by_cases hi : i < rl.length
      · have h1 := wst_bd rl m (i + 1) (by omega)
        have h2 : 0 ≤ (if h2 : i < rl[i].2.toNat then wst rl rl[i].2.toNat else 0) ∧ (if h2 : i < rl[i].2.toNat then wst rl rl[i].2.toNat else 0) ≤ 4 * (m : Int) := by
          by_cases h2 : i < rl[i].2.toNat
          · rw [dif_pos h2]; exact wst_bd rl m _ (by omega)
          · rw [dif_neg h2]; omega
        have h3 := costN_bd rl[i].1
        have h4 := behN_le rl[i].1 _ _ _ h1 h2
        rw [wst_eq, dif_pos hi]
        omega
      · rw [wst_end (by omega)]; omega

theorem op_ways (op : Int) : op = 0 ∨ op = 9 ∨ op = 10 ∨ ((op == 0) = false ∧ (op == 9) = false ∧ (op == 10) = false) := by
  by_cases h0 : op = 0
  · exact .inl h0
  · by_cases h1 : op = 9
    · exact .inr (.inl h1)
    · by_cases h2 : op = 10
      · exact .inr (.inr (.inl h2))
      · exact .inr (.inr (.inr ⟨by simpa using h0, by simpa using h1, by simpa using h2⟩))

theorem min_ways (arg : Int) (m : Nat) (hm : (m : Int) = min arg 60) : (arg = (m : Int) ∧ m ≤ 60) ∨ (60 < arg ∧ m = 60) := by omega

set_option maxRecDepth 100000 in
set_option maxHeartbeats 1000000 in
theorem behindI0 (k : Nat) (op arg : Int) (i m : Nat) (X Y : Int) (hi : i < 60) (hm : (m : Int) = min arg 60) (w : World) (h1 : w.cell? ⟨k, i + 1, none⟩ = some (.int .i64 X)) (h2 : w.cell? ⟨k, m, none⟩ = some (.int .i64 Y)) :
    Calls Try.prog 41 #[.pointer (some ⟨k, 0, none⟩), .agg #[.int .i64 op, .int .i64 arg], .int .i64 i] w fun e w' => e = .returned (.int .i64 (behN op X Y)) ∧ Below w.heap.size w w' := by
  have HW : Hid (Below w.heap.size w (w.alloc (.cells #[.int .i64 op, .int .i64 arg] 51))) := (Below.refl _ _).alloc (Nat.le_refl _) _
  have hk : k < w.heap.size := World.block_lt_of_cell? w ⟨k, m, none⟩ h2
  have c1 := (HW.out.cell (p := ⟨k, i + 1, none⟩) hk).trans h1
  have c2 := (HW.out.cell (p := ⟨k, m, none⟩) hk).trans h2
  have hd := row2_cells (heap_new w (.cells #[.int .i64 op, .int .i64 arg] 51))
  clear h1 h2
  have hw := min_ways arg m hm
  clear hm
  rcases hw with ⟨rfl, h60⟩ | ⟨h60, rfl⟩
  · rcases op_ways op with rfl | rfl | rfl | ⟨g1, g2, g3⟩
    · go_enter Try.func41, Try.ntmps41
      go_wp2
      go_region
      go_wp2
      go_ret
      exact ⟨rfl, HW.out.drew⟩
    · go_enter Try.func41, Try.ntmps41
      go_wp2
      go_region
      go_wp2
      go_ret
      exact ⟨rfl, HW.out.drew⟩
    · by_cases hxy : X < Y
      · have HM : Hid (behN 10 X Y = Y) := by show (max X Y) = Y; omega
        go_enter Try.func41, Try.ntmps41
        go_wp2
        go_region
        go_wp2
        go_ret
        exact ⟨by rw [HM.out]; rfl, HW.out.drew⟩
      · have HM : Hid (behN 10 X Y = X) := by show (max X Y) = X; omega
        go_enter Try.func41, Try.ntmps41
        go_wp2
        go_region
        go_wp2
        go_ret
        exact ⟨by rw [HM.out]; rfl, HW.out.drew⟩
    · have HM : Hid (behN op X Y = X) := by
        have h1 : op ≠ 0 := by simpa using g1
        have h2 : op ≠ 9 := by simpa using g2
        have h3 : op ≠ 10 := by simpa using g3
        show behN op X Y = X
        unfold behN
        rw [if_neg h1, if_neg h2, if_neg h3]
      go_enter Try.func41, Try.ntmps41
      go_wp2
      go_region
      go_wp2
      go_ret
      exact ⟨by rw [HM.out]; rfl, HW.out.drew⟩
  · rcases op_ways op with rfl | rfl | rfl | ⟨g1, g2, g3⟩
    · go_enter Try.func41, Try.ntmps41
      go_wp2
      go_region
      go_wp2
      go_ret
      exact ⟨rfl, HW.out.drew⟩
    · go_enter Try.func41, Try.ntmps41
      go_wp2
      go_region
      go_wp2
      go_ret
      exact ⟨rfl, HW.out.drew⟩
    · by_cases hxy : X < Y
      · have HM : Hid (behN 10 X Y = Y) := by show (max X Y) = Y; omega
        go_enter Try.func41, Try.ntmps41
        go_wp2
        go_region
        go_wp2
        go_ret
        exact ⟨by rw [HM.out]; rfl, HW.out.drew⟩
      · have HM : Hid (behN 10 X Y = X) := by show (max X Y) = X; omega
        go_enter Try.func41, Try.ntmps41
        go_wp2
        go_region
        go_wp2
        go_ret
        exact ⟨by rw [HM.out]; rfl, HW.out.drew⟩
    · have HM : Hid (behN op X Y = X) := by
        have h1 : op ≠ 0 := by simpa using g1
        have h2 : op ≠ 9 := by simpa using g2
        have h3 : op ≠ 10 := by simpa using g3
        show behN op X Y = X
        unfold behN
        rw [if_neg h1, if_neg h2, if_neg h3]
      go_enter Try.func41, Try.ntmps41
      go_wp2
      go_region
      go_wp2
      go_ret
      exact ⟨by rw [HM.out]; rfl, HW.out.drew⟩

/-- .. also where the place that an instruction does not go to holds another number -/
theorem behindI (k : Nat) (op arg : Int) (i m : Nat) (X Y R : Int) (hi : i < 60) (hm : (m : Int) = min arg 60) (hR : behN op X Y = R) (w : World) (h1 : w.cell? ⟨k, i + 1, none⟩ = some (.int .i64 X)) (h2 : ∃ Y', w.cell? ⟨k, m, none⟩ = some (.int .i64 Y') ∧ (goes op → Y' = Y)) :
    Calls Try.prog 41 #[.pointer (some ⟨k, 0, none⟩), .agg #[.int .i64 op, .int .i64 arg], .int .i64 i] w fun e w' => e = .returned (.int .i64 R) ∧ Below w.heap.size w w' := by
  obtain ⟨Y', h2, hg⟩ := h2
  have e : behN op X Y' = R := by
    rw [← hR]
    by_cases h : goes op
    · rw [hg h]
    · unfold behN
      have h9 : op ≠ 9 := fun e => h (.inl e)
      have h10 : op ≠ 10 := fun e => h (.inr e)
      rw [if_neg h9, if_neg h10, if_neg h9, if_neg h10]
  subst e
  exact behindI0 k op arg i m X Y' hi hm w h1 h2
end Go.Proofs.Ythnocibkgpofnaa.I
