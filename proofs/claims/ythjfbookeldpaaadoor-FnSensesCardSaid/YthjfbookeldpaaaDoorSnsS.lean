/-
  SnsS: the names of what is felt: SenseNames of the specification; ReadSense of both sides.
-/
import Derived.Test.YthjfbookeldpaaaDoorSnsN
namespace Go.Proofs.YthjfbookeldpaaaDoor
open Go.RowKit Go.PlainAid
set_option linter.unusedVariables false

/-- what the specification has gathered behind k names -/
def gat (s : Int) : Nat → ByteArray
  | 0 => ⟨#[]⟩
  | k + 1 => if hasB s ((2 ^ k : Nat) : Int) then (if gat s k = ⟨#[]⟩ then gat s k ++ nmS k else gat s k ++ ⟨#[44]⟩ ++ nmS k) else gat s k
theorem nm_size : ∀ k, (nmS k).size ≤ 5
  | 0 => by decide
  | 1 => by decide
  | 2 => by decide
  | 3 => by decide
  | k + 4 => by show (⟨#[]⟩ : ByteArray).size ≤ 5; decide
theorem gat_size (s : Int) : ∀ k, (gat s k).size ≤ 6 * k
  | 0 => Nat.le_refl 0
  | k + 1 => by
    have h1 := gat_size s k
    have h2 := nm_size k
    have h3 : (⟨#[44]⟩ : ByteArray).size = 1 := rfl
    unfold gat
    split
    · split
      · rw [ByteArray.size_append]; omega
      · rw [ByteArray.size_append, ByteArray.size_append]; omega
    · omega
theorem gat_fin : ∀ i : Fin 16, (if gat (i.val : Int) 4 = ⟨#[]⟩ then (⟨#[110, 111, 110, 101]⟩ : ByteArray) else gat (i.val : Int) 4) = nameB (i.val : Int) := by decide +kernel
theorem gat_eq (s : Int) (h : 0 ≤ s ∧ s ≤ 15) : (if gat s 4 = ⟨#[]⟩ then (⟨#[110, 111, 110, 101]⟩ : ByteArray) else gat s 4) = nameB s := by
  have h := gat_fin ⟨s.toNat, by omega⟩
  have e1 : ((s.toNat : Nat) : Int) = s := by omega
  simp only [e1] at h
  exact h

theorem not_empty {T : ByteArray} (h : 0 < T.size) : T.toList.isEmpty = false := by
  rw [ByteArray.toList_eq]
  cases e : T.data.toList with
  | nil =>
    have h2 : T.data.toList.length = 0 := by rw [e]; rfl
    rw [Array.length_toList] at h2
    have h3 : T.size = 0 := h2
    omega
  | cons x y => rfl
theorem ne_empty {s : ByteArray} (h : ¬ s = ⟨#[]⟩) : s.toList.isEmpty = false := not_empty (Nat.pos_of_ne_zero fun e => h (ByteArray.ext (Array.eq_empty_of_size_eq_zero e)))
theorem two_rows (w : World) (W : World := (w.alloc (.cells #[.string ⟨#[98, 108, 111, 99, 107]⟩, .string ⟨#[97, 105, 114]⟩, .string ⟨#[100, 111, 111, 114]⟩, .string ⟨#[112, 111, 119, 101, 114]⟩] 9)).alloc (.cells #[.int .i64 1, .int .i64 2, .int .i64 4, .int .i64 8] 3)) (hW : W = (w.alloc (.cells #[.string ⟨#[98, 108, 111, 99, 107]⟩, .string ⟨#[97, 105, 114]⟩, .string ⟨#[100, 111, 111, 114]⟩, .string ⟨#[112, 111, 119, 101, 114]⟩] 9)).alloc (.cells #[.int .i64 1, .int .i64 2, .int .i64 4, .int .i64 8] 3) := by rfl) :
    W.cell? ⟨w.heap.size, 0, none⟩ = some (.string (nmS 0)) ∧ W.cell? ⟨w.heap.size, 1, none⟩ = some (.string (nmS 1)) ∧ W.cell? ⟨w.heap.size, 2, none⟩ = some (.string (nmS 2)) ∧ W.cell? ⟨w.heap.size, 3, none⟩ = some (.string (nmS 3)) ∧
      W.cell? ⟨w.heap.size + 1, 0, none⟩ = some (.int .i64 1) ∧ W.cell? ⟨w.heap.size + 1, 1, none⟩ = some (.int .i64 2) ∧ W.cell? ⟨w.heap.size + 1, 2, none⟩ = some (.int .i64 4) ∧ W.cell? ⟨w.heap.size + 1, 3, none⟩ = some (.int .i64 8) := by
  subst hW
  have e0 : ((w.alloc (.cells #[.string ⟨#[98, 108, 111, 99, 107]⟩, .string ⟨#[97, 105, 114]⟩, .string ⟨#[100, 111, 111, 114]⟩, .string ⟨#[112, 111, 119, 101, 114]⟩] 9)).alloc (.cells #[.int .i64 1, .int .i64 2, .int .i64 4, .int .i64 8] 3)).heap[w.heap.size]? = some (.cells #[.string ⟨#[98, 108, 111, 99, 107]⟩, .string ⟨#[97, 105, 114]⟩, .string ⟨#[100, 111, 111, 114]⟩, .string ⟨#[112, 111, 119, 101, 114]⟩] 9) := by
    show ((w.heap.push _).push _)[w.heap.size]? = _
    rw [Array.getElem?_push_lt (by simp)]
    simp
  have e1 : ((w.alloc (.cells #[.string ⟨#[98, 108, 111, 99, 107]⟩, .string ⟨#[97, 105, 114]⟩, .string ⟨#[100, 111, 111, 114]⟩, .string ⟨#[112, 111, 119, 101, 114]⟩] 9)).alloc (.cells #[.int .i64 1, .int .i64 2, .int .i64 4, .int .i64 8] 3)).heap[w.heap.size + 1]? = some (.cells #[.int .i64 1, .int .i64 2, .int .i64 4, .int .i64 8] 3) := by
    have h := heap_alloc_new (w.alloc (.cells #[.string ⟨#[98, 108, 111, 99, 107]⟩, .string ⟨#[97, 105, 114]⟩, .string ⟨#[100, 111, 111, 114]⟩, .string ⟨#[112, 111, 119, 101, 114]⟩] 9)) (.cells #[.int .i64 1, .int .i64 2, .int .i64 4, .int .i64 8] 3)
    rw [show (w.alloc (.cells #[.string ⟨#[98, 108, 111, 99, 107]⟩, .string ⟨#[97, 105, 114]⟩, .string ⟨#[100, 111, 111, 114]⟩, .string ⟨#[112, 111, 119, 101, 114]⟩] 9)).heap.size = w.heap.size + 1 from by simp] at h
    exact h
  refine ⟨?_, ?_, ?_, ?_, ?_, ?_, ?_, ?_⟩
  · rw [cell_of_row _ _ 0 _ _ _ e0]; rfl
  · rw [cell_of_row _ _ 1 _ _ _ e0]; rfl
  · rw [cell_of_row _ _ 2 _ _ _ e0]; rfl
  · rw [cell_of_row _ _ 3 _ _ _ e0]; rfl
  · rw [cell_of_row _ _ 0 _ _ _ e1]; rfl
  · rw [cell_of_row _ _ 1 _ _ _ e1]; rfl
  · rw [cell_of_row _ _ 2 _ _ _ e1]; rfl
  · rw [cell_of_row _ _ 3 _ _ _ e1]; rfl

set_option maxRecDepth 100000 in
set_option maxHeartbeats 1000000 in
theorem sNamesS (n : Int) (w : World) : Calls Tryd.prog 14 #[.int .i64 n] w fun e w' => e = .returned (.string (nameN n)) ∧ Below w.heap.size w w' := by
  by_cases h : 0 ≤ n ∧ n ≤ 15
  · have HN : Hid (nameN n = nameB n) := if_pos h
    have HG : Hid ((if gat n 4 = ⟨#[]⟩ then (⟨#[110, 111, 110, 101]⟩ : ByteArray) else gat n 4) = nameB n) := gat_eq n h
    go_enter Tryd.func14, Tryd.ntmps14
    go_wp2_with fail
    refine (senseS n true (decide_eq_true h) _).mono ?_
    rintro e w1 ⟨rfl, rfl⟩
    clear h
    go_wp2
    obtain ⟨n0, n1, n2, n3, i0, i1, i2, i3⟩ := two_rows w
    have HB : Hid (Below w.heap.size w ((w.alloc (.cells #[.string ⟨#[98, 108, 111, 99, 107]⟩, .string ⟨#[97, 105, 114]⟩, .string ⟨#[100, 111, 111, 114]⟩, .string ⟨#[112, 111, 119, 101, 114]⟩] 9)).alloc (.cells #[.int .i64 1, .int .i64 2, .int .i64 4, .int .i64 8] 3))) := ((Below.refl _ _).alloc (Nat.le_refl _) _).alloc (by simp) _
    change Hid (Below w.heap.size w ((w.alloc _).alloc _)) at HB
    generalize hWe : World.alloc (World.alloc w _) _ = W at *
    clear hWe
    go_loopw [5, 6] (fun v i wr => ∃ (k : Nat), k ≤ 4 ∧ i = .int .i64 k ∧ v = .string (gat n k) ∧ wr = W) (fun _ i _ => 4 - (intOf i).toNat)
    case atStart => exact ⟨0, by decide, rfl, rfl, rfl⟩
    case round =>
      obtain ⟨k, hk, rfl, rfl, rfl⟩ := hrel
      have hk5 : k = 4 ∨ k = 0 ∨ k = 1 ∨ k = 2 ∨ k = 3 := by omega
      clear hk
      rcases hk5 with rfl | rfl | rfl | rfl | rfl
      · generalize gat n 4 = s at *
        by_cases he : s = ⟨#[]⟩
        · rw [if_pos he] at HG
          subst he
          go_wp2
          go_ret
          exact ⟨by rw [HN.out, ← HG.out]; rfl, HB.out⟩
        · rw [if_neg he] at HG
          have hne := ne_empty he
          clear he
          go_wp2
          go_ret
          exact ⟨by rw [HN.out, ← HG.out]; rfl, HB.out⟩
      · have HF : Hid (gat n 1 = if hasB n 1 then (if gat n 0 = ⟨#[]⟩ then gat n 0 ++ nmS 0 else gat n 0 ++ ⟨#[44]⟩ ++ nmS 0) else gat n 0) := rfl
        have hxs : (nmS 0).size ≤ 5 := by decide
        have hss : (gat n 0).size ≤ 6 * 0 := gat_size n 0
        generalize gat n 0 = s at *
        generalize nmS 0 = x at *
        go_wp2_with fail
        refine (hasS n 1 _ rfl _).mono ?_
        rintro e w1 ⟨rfl, rfl⟩
        cases hb : hasB n 1
        · rw [hb] at HF
          have HE : Hid (gat n 1 = s) := HF
          clear HF hb
          go_wp2
          go_roundw
          case rel => exact ⟨1, by decide, rfl, by rw [HE.out], by first | rfl | trivial⟩
          case measure => simp [intOf]
        · rw [hb] at HF
          by_cases he : s = ⟨#[]⟩
          · have HE : Hid (gat n 1 = s ++ x) := by have := HF.out; rw [if_pos he] at this; exact this
            clear HF hb
            subst he
            go_wp2
            go_roundw
            case rel => exact ⟨1, by decide, rfl, by rw [HE.out], by first | rfl | trivial⟩
            case measure => simp [intOf]
          · have HE : Hid (gat n 1 = s ++ ⟨#[44]⟩ ++ x) := by have := HF.out; rw [if_neg he] at this; exact this
            have hne := ne_empty he
            have hsz : (s ++ ⟨#[44]⟩ : ByteArray).size = s.size + 1 := by rw [ByteArray.size_append]; rfl
            clear HF hb he
            go_wp2
            go_roundw
            case rel => exact ⟨1, by decide, rfl, by rw [HE.out], by first | rfl | trivial⟩
            case measure => simp [intOf]
      · have HF : Hid (gat n 2 = if hasB n 2 then (if gat n 1 = ⟨#[]⟩ then gat n 1 ++ nmS 1 else gat n 1 ++ ⟨#[44]⟩ ++ nmS 1) else gat n 1) := rfl
        have hxs : (nmS 1).size ≤ 5 := by decide
        have hss : (gat n 1).size ≤ 6 * 1 := gat_size n 1
        generalize gat n 1 = s at *
        generalize nmS 1 = x at *
        go_wp2_with fail
        refine (hasS n 2 _ rfl _).mono ?_
        rintro e w1 ⟨rfl, rfl⟩
        cases hb : hasB n 2
        · rw [hb] at HF
          have HE : Hid (gat n 2 = s) := HF
          clear HF hb
          go_wp2
          go_roundw
          case rel => exact ⟨2, by decide, rfl, by rw [HE.out], by first | rfl | trivial⟩
          case measure => simp [intOf]
        · rw [hb] at HF
          by_cases he : s = ⟨#[]⟩
          · have HE : Hid (gat n 2 = s ++ x) := by have := HF.out; rw [if_pos he] at this; exact this
            clear HF hb
            subst he
            go_wp2
            go_roundw
            case rel => exact ⟨2, by decide, rfl, by rw [HE.out], by first | rfl | trivial⟩
            case measure => simp [intOf]
          · have HE : Hid (gat n 2 = s ++ ⟨#[44]⟩ ++ x) := by have := HF.out; rw [if_neg he] at this; exact this
            have hne := ne_empty he
            have hsz : (s ++ ⟨#[44]⟩ : ByteArray).size = s.size + 1 := by rw [ByteArray.size_append]; rfl
            clear HF hb he
            go_wp2
            go_roundw
            case rel => exact ⟨2, by decide, rfl, by rw [HE.out], by first | rfl | trivial⟩
            case measure => simp [intOf]
      · have HF : Hid (gat n 3 = if hasB n 4 then (if gat n 2 = ⟨#[]⟩ then gat n 2 ++ nmS 2 else gat n 2 ++ ⟨#[44]⟩ ++ nmS 2) else gat n 2) := rfl
        have hxs : (nmS 2).size ≤ 5 := by decide
        have hss : (gat n 2).size ≤ 6 * 2 := gat_size n 2
        generalize gat n 2 = s at *
        generalize nmS 2 = x at *
        go_wp2_with fail
        refine (hasS n 4 _ rfl _).mono ?_
        rintro e w1 ⟨rfl, rfl⟩
        cases hb : hasB n 4
        · rw [hb] at HF
          have HE : Hid (gat n 3 = s) := HF
          clear HF hb
          go_wp2
          go_roundw
          case rel => exact ⟨3, by decide, rfl, by rw [HE.out], by first | rfl | trivial⟩
          case measure => simp [intOf]
        · rw [hb] at HF
          by_cases he : s = ⟨#[]⟩
          · have HE : Hid (gat n 3 = s ++ x) := by have := HF.out; rw [if_pos he] at this; exact this
            clear HF hb
            subst he
            go_wp2
            go_roundw
            case rel => exact ⟨3, by decide, rfl, by rw [HE.out], by first | rfl | trivial⟩
            case measure => simp [intOf]
          · have HE : Hid (gat n 3 = s ++ ⟨#[44]⟩ ++ x) := by have := HF.out; rw [if_neg he] at this; exact this
            have hne := ne_empty he
            have hsz : (s ++ ⟨#[44]⟩ : ByteArray).size = s.size + 1 := by rw [ByteArray.size_append]; rfl
            clear HF hb he
            go_wp2
            go_roundw
            case rel => exact ⟨3, by decide, rfl, by rw [HE.out], by first | rfl | trivial⟩
            case measure => simp [intOf]
      · have HF : Hid (gat n 4 = if hasB n 8 then (if gat n 3 = ⟨#[]⟩ then gat n 3 ++ nmS 3 else gat n 3 ++ ⟨#[44]⟩ ++ nmS 3) else gat n 3) := rfl
        have hxs : (nmS 3).size ≤ 5 := by decide
        have hss : (gat n 3).size ≤ 6 * 3 := gat_size n 3
        generalize gat n 3 = s at *
        generalize nmS 3 = x at *
        go_wp2_with fail
        refine (hasS n 8 _ rfl _).mono ?_
        rintro e w1 ⟨rfl, rfl⟩
        cases hb : hasB n 8
        · rw [hb] at HF
          have HE : Hid (gat n 4 = s) := HF
          clear HF hb
          go_wp2
          go_roundw
          case rel => exact ⟨4, by decide, rfl, by rw [HE.out], by first | rfl | trivial⟩
          case measure => simp [intOf]
        · rw [hb] at HF
          by_cases he : s = ⟨#[]⟩
          · have HE : Hid (gat n 4 = s ++ x) := by have := HF.out; rw [if_pos he] at this; exact this
            clear HF hb
            subst he
            go_wp2
            go_roundw
            case rel => exact ⟨4, by decide, rfl, by rw [HE.out], by first | rfl | trivial⟩
            case measure => simp [intOf]
          · have HE : Hid (gat n 4 = s ++ ⟨#[44]⟩ ++ x) := by have := HF.out; rw [if_neg he] at this; exact this
            have hne := ne_empty he
            have hsz : (s ++ ⟨#[44]⟩ : ByteArray).size = s.size + 1 := by rw [ByteArray.size_append]; rfl
            clear HF hb he
            go_wp2
            go_roundw
            case rel => exact ⟨4, by decide, rfl, by rw [HE.out], by first | rfl | trivial⟩
            case measure => simp [intOf]
  · have HN : Hid (nameN n = ⟨#[]⟩) := if_neg h
    have D := decide_eq_false h
    clear h
    go_enter Tryd.func14, Tryd.ntmps14
    go_wp2_with fail
    refine (senseS n false D _).mono ?_
    rintro e w1 ⟨rfl, rfl⟩
    go_wp2
    go_ret
    exact ⟨by rw [HN.out]; rfl, ((Below.refl _ _).alloc (Nat.le_refl _) _).alloc (by simp) _⟩
end Go.Proofs.YthjfbookeldpaaaDoor
