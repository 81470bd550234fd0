/-
  The contract of PartsOf, the specification's.
-/
import Derived.Test.YtbcphgmcjickgaaDoorParts05
namespace Go.Proofs.YtbcphgmcjickgaaDoor
open Go.RowKit Plain Go.PlainAid
set_option linter.unusedVariables false

/-- the parts still to come, none behind the end -/
def U (s : ByteArray) (b k : Nat) : List ByteArray := if k ≤ s.size then V s b k else []
theorem U_on {s : ByteArray} {b k : Nat} (h : k < s.size) (hb : ¬ bt s k = 32) : U s b k = U s b (k + 1) := by
  unfold U; rw [if_pos (by omega), if_pos (by omega), V_on h hb]
theorem U_word {s : ByteArray} {b k : Nat} (h : k ≤ s.size) (hb : k < s.size → bt s k = 32) : U s b k = word s b k ++ U s (k + 1) (k + 1) := by
  unfold U
  rw [if_pos h]
  by_cases hlt : k < s.size
  · rw [if_pos (by omega), V_blank hlt (hb hlt)]
  · rw [if_neg (by omega), V_end hlt]; simp
theorem U_last {s : ByteArray} {b k : Nat} (h : ¬ k ≤ s.size) : U s b k = [] := by unfold U; rw [if_neg h]
theorem word_yes {s : ByteArray} {b k : Nat} (h : b < k) : word s b k = [s.extract b k] := by unfold word; rw [if_pos h]
theorem word_no {s : ByteArray} {b k : Nat} (h : ¬ b < k) : word s b k = [] := by unfold word; rw [if_neg h]
def Upto (s : ByteArray) (k : Nat) : Prop := ∀ j, j < k → j < s.size → 32 ≤ bt s j ∧ bt s j ≤ 126
theorem upto_succ {s : ByteArray} {k : Nat} (h : Upto s k) (hk : k < s.size → 32 ≤ bt s k ∧ bt s k ≤ 126) : Upto s (k + 1) := fun j hj hs => by
  by_cases e : j = k
  · subst e; exact hk hs
  · exact h j (by omega) hs

set_option maxRecDepth 100000 in
set_option maxHeartbeats 2000000 in
theorem parts4 (s : ByteArray) (hs : s.size ≤ 1048576) (w : World) : Calls Tryd.prog 42 #[.string s] w (Done s w) := by
  obtain ⟨i0, hi, hz0, hz1, hz2⟩ := info_parts info9
  have how := own_empty w
  by_cases hl : 600 < s.size
  · have HP : Hid (Parts s [] false) := parts_no (fun h => by omega)
    go_enter Tryd.func42, Tryd.ntmps42
    go_wp2
    go_ret2
    exact ⟨_, [], false, rfl, HP.out, how, (Below.refl _ _).alloc (Nat.le_refl _) _⟩
  · have hbt := get_bt s
    go_enter Tryd.func42, Tryd.ntmps42
    go_wp2
    go_loopw [4, 5, 6] (fun v bv i wr => ∃ (k b : Nat) (xs : List ByteArray), k ≤ s.size + 1 ∧ b ≤ k ∧ bv = .int .i64 b ∧ i = .int .i64 k ∧ xs.length ≤ k ∧ Hid (Upto s k) ∧ Hid (V s 0 0 = xs ++ U s b k) ∧ wr.ownsRow w.heap.size 9 1 v xs.length (strV xs) ∧ Below w.heap.size w wr) (fun _ _ i _ => s.size + 1 - (intOf i).toNat)
    case atStart => exact ⟨0, 0, [], by omega, by omega, rfl, rfl, by simp, (show Hid _ from fun j h => by omega), (show Hid _ from by unfold U; rw [if_pos (by omega)]; rfl), how, (Below.refl _ _).alloc (Nat.le_refl _) _⟩
    case round =>
      clear how
      obtain ⟨k, b, xs, hk, hbk, rfl, rfl, hx, HU, HV, hown, hnx⟩ := hrel
      have hsz := hnx.size
      by_cases hle : k ≤ s.size
      · by_cases hbad : k < s.size ∧ (bt s k < 32 ∨ 126 < bt s k)
        · obtain ⟨hlt, hbad⟩ := hbad
          have b0 := bt_nonneg s k
          have b1 := bt_le s k
          have HP : Hid (Parts s [] false) := parts_no (fun h => by have := h.2.1 k hlt; omega)
          have hoe := own_mono (own_empty wr) hsz
          rcases hbad with h1 | h1
          · go_wp2
            go_ret2
            exact ⟨_, [], false, rfl, HP.out, hoe, hnx.alloc hsz _⟩
          · go_wp2
            go_ret2
            exact ⟨_, [], false, rfl, HP.out, hoe, hnx.alloc hsz _⟩
        · have hgood : k < s.size → 32 ≤ bt s k ∧ bt s k ≤ 126 := fun h => by omega
          have HU' : Hid (Upto s (k + 1)) := upto_succ HU.out hgood
          clear hbad HU
          by_cases hin : k < s.size ∧ ¬ bt s k = 32
          · obtain ⟨hlt, hne⟩ := hin
            obtain ⟨g0, g1⟩ := hgood hlt
            have HV' : Hid (V s 0 0 = xs ++ U s b (k + 1)) := by have := HV.out; rw [U_on hlt hne] at this; exact this
            have h2 : (bt s k != 32) = true := by simp [hne]
            clear hgood hne HV
            go_wp2
            go_roundw
            case rel => exact ⟨k + 1, b, xs, by omega, by omega, rfl, by go_num, by omega, HU', HV', hown, hnx⟩
            case measure => simp [intOf]; omega
          · have hend : k < s.size → bt s k = 32 := fun h => by
              by_cases e : bt s k = 32
              · exact e
              · exact absurd ⟨h, e⟩ hin
            have HE : Hid (k < s.size → bt s k = 32) := hend
            have HV1 : Hid (V s 0 0 = xs ++ (word s b k ++ U s (k + 1) (k + 1))) := by have := HV.out; rw [U_word hle hend] at this; exact this
            clear hin hend HV hgood
            by_cases hbl : b < k
            · have HV2 : Hid (V s 0 0 = (xs ++ [s.extract b k]) ++ U s (k + 1) (k + 1)) := by have := HV1.out; rw [word_yes hbl] at this; rw [this]; simp [Hid]
              clear HV1
              by_cases hlt : k < s.size
              · have h2 : (bt s k != 32) = false := by simp [HE.out hlt]
                have g0 : 32 ≤ bt s k ∧ bt s k ≤ 126 := by rw [HE.out hlt]; decide
                go_wp2_with (at_builtin; refine wpList_append_own _ rfl _ _ 61 rfl w.heap.size 9 i0 (.string ⟨#[]⟩) 1 16 Tryd.underlying61 hi hz0 hz1 hz2 rfl (by decide) _ _ _ rfl (hown.alloc _) ⟨wr.heap.size, 0, none⟩ 1 1 [.string (s.extract b k)] rfl rfl ?c1 ?c2 ?c3 ?c4 ?c5 ?_)
                case c1 => exact one_str wr _ _ rfl
                case c2 => intro u hu; simp at hu; subst hu; rfl
                case c3 => unfold maxLen; omega
                case c4 => omega
                case c5 => simp; omega
                intro v' w5 hown5 hgrow _
                have R := rel_str (x := s.extract b k) (hnx.alloc hsz _) (by simp; omega) hown hown5 hgrow rfl
                clear hown5 hgrow hown
                go_wp2
                go_roundw
                case rel => exact ⟨k + 1, k + 1, xs ++ [s.extract b k], by omega, by omega, by go_num, by go_num, by simp; omega, HU', HV2, R.1, R.2⟩
                case measure => simp [intOf]; omega
              · go_wp2_with (at_builtin; refine wpList_append_own _ rfl _ _ 61 rfl w.heap.size 9 i0 (.string ⟨#[]⟩) 1 16 Tryd.underlying61 hi hz0 hz1 hz2 rfl (by decide) _ _ _ rfl (hown.alloc _) ⟨wr.heap.size, 0, none⟩ 1 1 [.string (s.extract b k)] rfl rfl ?d1 ?d2 ?d3 ?d4 ?d5 ?_)
                case d1 => exact one_str wr _ _ rfl
                case d2 => intro u hu; simp at hu; subst hu; rfl
                case d3 => unfold maxLen; omega
                case d4 => omega
                case d5 => simp; omega
                intro v' w5 hown5 hgrow _
                have R := rel_str (x := s.extract b k) (hnx.alloc hsz _) (by simp; omega) hown hown5 hgrow rfl
                clear hown5 hgrow hown
                go_wp2
                go_roundw
                case rel => exact ⟨k + 1, k + 1, xs ++ [s.extract b k], by omega, by omega, by go_num, by go_num, by simp; omega, HU', HV2, R.1, R.2⟩
                case measure => simp [intOf]; omega
            · have HV2 : Hid (V s 0 0 = xs ++ U s (k + 1) (k + 1)) := by have := HV1.out; rw [word_no hbl] at this; simpa [Hid] using this
              clear HV1
              by_cases hlt : k < s.size
              · have h2 : (bt s k != 32) = false := by simp [HE.out hlt]
                have g0 : 32 ≤ bt s k ∧ bt s k ≤ 126 := by rw [HE.out hlt]; decide
                go_wp2
                go_roundw
                case rel => exact ⟨k + 1, k + 1, xs, by omega, by omega, by go_num, by go_num, by omega, HU', HV2, hown, hnx⟩
                case measure => simp [intOf]; omega
              · go_wp2
                go_roundw
                case rel => exact ⟨k + 1, k + 1, xs, by omega, by omega, by go_num, by go_num, by omega, HU', HV2, hown, hnx⟩
                case measure => simp [intOf]; omega
      · have HPL : Hid (Plainly s) := fun j hj => HU.out j (by omega) hj
        have HX : Hid (xs = V s 0 0) := by have := HV.out; rw [U_last hle] at this; rw [this]; simp [Hid]
        obtain ⟨ao, cap, hv, _⟩ := own_form hown
        have hoe := own_mono (own_empty wr) hsz
        subst hv
        clear HU HV
        by_cases h10 : 10 < xs.length
        · have HP : Hid (Parts s [] false) := parts_no (fun h => by have := h.2.2; rw [← HX.out] at this; omega)
          go_wp2
          go_ret2
          exact ⟨_, [], false, rfl, HP.out, hoe, hnx.alloc hsz _⟩
        · have HP : Hid (Parts s xs true) := parts_yes (by omega) HPL.out HX.out (by omega)
          go_wp2
          go_ret2
          exact ⟨_, xs, true, rfl, HP.out, hown, hnx⟩
end Go.Proofs.YtbcphgmcjickgaaDoor
