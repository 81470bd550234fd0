/-
  The contracts of the program's helpers: is a line plain, where blanks end, where a part ends, a text copied.
-/
import Derived.Test.YtbcphgmcjickgaaDoorPOwn5
import Derived.Test.YtbcphgmcjickgaaDoorShelf
namespace Go.Proofs.YtbcphgmcjickgaaDoor
open Go.RowKit Plain Go.PlainAid
set_option linter.unusedVariables false

theorem clone12 (s : ByteArray) (w : World) (hs : s.size ≤ 281474976710656) :
    Calls Tryd.prog 59 #[.string s] w fun e w' => e = .returned (.string s) ∧ Below w.heap.size w w' := by
  go_enter Tryd.func59, Tryd.ntmps59
  go_wp2_with fail
  refine (Tryd.stringslite_Clone s _ hs).mono ?_
  rintro e w1 ⟨rfl, hb⟩
  go_wp2
  go_ret
  exact ⟨rfl, hb⟩

theorem not_plain {s : ByteArray} {b : Bool} (hb : b = true ↔ Plainly s) (k : Nat) (hlt : k < s.size) (h : bt s k < 32 ∨ 126 < bt s k) : b = false := by
  cases b with
  | false => rfl
  | true => have := hb.1 rfl k hlt; omega

set_option maxRecDepth 100000 in
set_option maxHeartbeats 400000 in
theorem plain9 (s : ByteArray) (hs : s.size ≤ 1048576) (b : Bool) (hb : b = true ↔ Plainly s) (w : World) :
    Calls Tryd.prog 56 #[.string s] w fun e w' => e = .returned (.bool b) ∧ w' = w := by
  have HB : Hid (b = true ↔ Plainly s) := hb
  clear hb
  have hbt := get_bt s
  go_enter Tryd.func56, Tryd.ntmps56
  go_wp2
  go_loopw [3] (fun i wr => ∃ k : Nat, k ≤ s.size ∧ i = .int .i64 k ∧ Hid (∀ j, j < k → 32 ≤ bt s j ∧ bt s j ≤ 126) ∧ wr = w) (fun i _ => s.size - (intOf i).toNat)
  case atStart => exact ⟨0, Nat.zero_le _, rfl, (show Hid _ from fun j h => by omega), rfl⟩
  case round =>
    obtain ⟨k, hk, rfl, HP, rfl⟩ := hrel
    have b0 := bt_nonneg s k
    have b1 := bt_le s k
    by_cases hlt : k < s.size
    · by_cases h1 : bt s k < 32
      · have HN : Hid (b = false) := not_plain HB.out k hlt (by omega)
        go_wp2
        go_ret
        exact ⟨by rw [HN.out]; rfl, rfl⟩
      · by_cases h2 : 126 < bt s k
        · have HN : Hid (b = false) := not_plain HB.out k hlt (by omega)
          go_wp2
          go_ret
          exact ⟨by rw [HN.out]; rfl, rfl⟩
        · have HP' : Hid (∀ j, j < k + 1 → 32 ≤ bt s j ∧ bt s j ≤ 126) := fun j hj => by
            by_cases e : j = k
            · subst e; omega
            · exact HP.out j (by omega)
          go_wp2
          go_roundw
          case rel => exact ⟨k + 1, by omega, by go_num, HP', trivial⟩
          case measure => simp [intOf]; omega
    · have HY : Hid (b = true) := HB.out.2 fun j hj => HP.out j (by omega)
      go_wp2
      go_ret
      exact ⟨by rw [HY.out]; rfl, rfl⟩

set_option maxRecDepth 100000 in
set_option maxHeartbeats 400000 in
theorem skip10 (s : ByteArray) (hs : s.size ≤ 1048576) (a : Nat) (ha : a ≤ s.size) (w : World) :
    Calls Tryd.prog 57 #[.string s, .int .i64 a] w fun e w' => (∃ k : Nat, e = .returned (.int .i64 k) ∧ a ≤ k ∧ k ≤ s.size ∧ (k < s.size → ¬ bt s k = 32) ∧ V s a a = V s k k) ∧ w' = w := by
  have hbt := get_bt s
  go_enter Tryd.func57, Tryd.ntmps57
  go_wp2
  go_loopw [1] (fun i wr => ∃ k : Nat, a ≤ k ∧ k ≤ s.size ∧ i = .int .i64 k ∧ Hid (V s a a = V s k k) ∧ wr = w) (fun i _ => s.size - (intOf i).toNat)
  case atStart => exact ⟨a, Nat.le_refl _, ha, rfl, (show Hid _ from rfl), rfl⟩
  case round =>
    obtain ⟨k, hak, hk, rfl, HV, rfl⟩ := hrel
    by_cases hlt : k < s.size
    · by_cases h1 : bt s k = 32
      · have HV' : Hid (V s a a = V s (k + 1) (k + 1)) := HV.out.trans (V_skip hlt h1)
        have h2 : (bt s k == 32) = true := by simp [h1]
        clear h1
        go_wp2
        go_roundw
        case rel => exact ⟨k + 1, by omega, by omega, by go_num, HV', trivial⟩
        case measure => simp [intOf]; omega
      · have h2 : (bt s k == 32) = false := by simp [h1]
        have H1 : Hid (¬ bt s k = 32) := h1
        clear h1
        go_wp2
        go_ret
        exact ⟨⟨k, rfl, hak, hk, fun _ => H1.out, HV.out⟩, rfl⟩
    · go_wp2
      go_ret
      exact ⟨⟨k, rfl, hak, hk, fun h => absurd h hlt, HV.out⟩, rfl⟩

set_option maxRecDepth 100000 in
set_option maxHeartbeats 400000 in
theorem eop11 (s : ByteArray) (hs : s.size ≤ 1048576) (a : Nat) (ha : a < s.size) (hna : ¬ bt s a = 32) (w : World) :
    Calls Tryd.prog 58 #[.string s, .int .i64 a] w fun e w' => (∃ k : Nat, e = .returned (.int .i64 k) ∧ a < k ∧ k ≤ s.size ∧ V s a a = s.extract a k :: V s k k) ∧ w' = w := by
  have hbt := get_bt s
  have HN : Hid (¬ bt s a = 32) := hna
  clear hna
  go_enter Tryd.func58, Tryd.ntmps58
  go_wp2
  go_loopw [1] (fun i wr => ∃ k : Nat, a ≤ k ∧ k ≤ s.size ∧ i = .int .i64 k ∧ Hid (V s a a = V s a k) ∧ wr = w) (fun i _ => s.size - (intOf i).toNat)
  case atStart => exact ⟨a, Nat.le_refl _, by omega, rfl, (show Hid _ from rfl), rfl⟩
  case round =>
    obtain ⟨k, hak, hk, rfl, HV, rfl⟩ := hrel
    by_cases hlt : k < s.size
    · by_cases h1 : bt s k = 32
      · have hne : a ≠ k := fun e => by subst e; exact HN.out h1
        have HV' : Hid (V s a a = s.extract a k :: V s k k) := HV.out.trans (V_part (by omega) (fun _ => h1))
        have h2 : (bt s k != 32) = false := by simp [h1]
        clear h1
        go_wp2
        go_ret
        exact ⟨⟨k, rfl, by omega, hk, HV'.out⟩, rfl⟩
      · have h2 : (bt s k != 32) = true := by simp [h1]
        have HV' : Hid (V s a a = V s a (k + 1)) := HV.out.trans (V_on hlt h1)
        clear h1
        go_wp2
        go_roundw
        case rel => exact ⟨k + 1, by omega, by omega, by go_num, HV', trivial⟩
        case measure => simp [intOf]; omega
    · have HV' : Hid (V s a a = s.extract a k :: V s k k) := HV.out.trans (V_part (by omega) (fun h => absurd h hlt))
      go_wp2
      go_ret
      exact ⟨⟨k, rfl, by omega, hk, HV'.out⟩, rfl⟩
end Go.Proofs.YtbcphgmcjickgaaDoor
