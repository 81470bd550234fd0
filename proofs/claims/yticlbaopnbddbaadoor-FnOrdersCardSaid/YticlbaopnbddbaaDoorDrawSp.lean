/-
  A drawn text, spoilt or not: the contract of the specification's draw.
-/
import Derived.Test.YticlbaopnbddbaaDoorDrawIX
import Derived.Test.YticlbaopnbddbaaDoorDrawPY
namespace Go.Proofs.YticlbaopnbddbaaDoor
open Go.RowKit Go.PlainAid
set_option linter.unusedVariables false

theorem sp_keep {w W W' : World} {C B : Nat} {a : Option Addr} {len cap : Nat} (hD : Drawn W W' C B a len cap) (h : Drawn w W C B a len cap) : Drawn w W' C B a len cap := drawn_trans h hD

set_option maxRecDepth 100000 in
set_option maxHeartbeats 4000000 in
theorem spoiltD (C B : Nat) (a : Option Addr) (len cap : Nat) (s : ByteArray) (hs : s.size ≤ 500000) (w : World) (hC : Cur w C a len cap) (hB : B ≤ C) (hcode : CodeOk w B a len) :
    Calls Tryd.prog 31 #[.pointer (some ⟨C, 0, none⟩), .string s] w fun e w' => ∃ t : ByteArray, e = .returned (.string t) ∧ t.size ≤ s.size + 1 ∧ Drawn w w' C B a len cap := by
  have HD0 : Hid (Drawn w w C B a len cap) := ⟨hC, hcode, World.grownBy.refl _ _⟩
  clear hC hcode
  go_enter Tryd.func31, Tryd.ntmps31
  go_wp2_with fail
  refine (below28 C B a len cap 12 (by omega) (by omega) _ HD0.out.1 hB HD0.out.2.1).mono ?_
  rintro e w1 ⟨y, rfl, y0, y1, hD⟩
  have HD1 : Hid (Drawn w w1 C B a len cap) := hD
  clear hD HD0
  have ways : y = 0 ∨ y = 1 ∨ y = 2 ∨ y = 3 ∨ ((y == 0) = false ∧ (y == 1) = false ∧ (y == 2) = false ∧ (y == 3) = false) := by
    by_cases h1 : y = 0
    · exact .inl h1
    · by_cases h2 : y = 1
      · exact .inr (.inl h2)
      · by_cases h3 : y = 2
        · exact .inr (.inr (.inl h3))
        · by_cases h4 : y = 3
          · exact .inr (.inr (.inr (.inl h4)))
          · exact .inr (.inr (.inr (.inr ⟨by simpa using h1, by simpa using h2, by simpa using h3, by simpa using h4⟩)))
  rcases ways with rfl | rfl | rfl | rfl | ⟨g1, g2, g3, g4⟩
  · go_wp2_with fail
    refine (I.textD C B a len cap 1 (by omega) _ HD1.out.1 hB HD1.out.2.1).mono ?_
    rintro e w2 ⟨t, rfl, ht, hD⟩
    have HD2 : Hid (Drawn w w2 C B a len cap) := drawn_trans HD1.out hD
    clear hD HD1
    go_wp2
    go_ret
    exact ⟨_, rfl, by rw [ByteArray.size_append]; omega, HD2.out⟩
  · go_wp2_with fail
    refine (below28 C B a len cap ((s.size : Int) + 1) (by omega) (by omega) _ HD1.out.1 hB HD1.out.2.1).mono ?_
    rintro e w2 ⟨x, rfl, x0, x1, hD⟩
    obtain ⟨n, rfl⟩ := Int.eq_ofNat_of_zero_le x0
    have hn : n ≤ s.size := by omega
    have HD2 : Hid (Drawn w w2 C B a len cap) := drawn_trans HD1.out hD
    clear hD HD1
    go_wp2
    go_ret
    exact ⟨_, rfl, by rw [ByteArray.size_extract]; omega, HD2.out⟩
  · by_cases hp : 0 < s.size
    · have hp' : (0 : Int) < (s.size : Int) := by omega
      go_wp2_with fail
      refine (below28 C B a len cap (s.size : Int) (by omega) (by omega) _ HD1.out.1 hB HD1.out.2.1).mono ?_
      rintro e w2 ⟨x, rfl, x0, x1, hD⟩
      obtain ⟨n, rfl⟩ := Int.eq_ofNat_of_zero_le x0
      have hn : n < s.size := by omega
      have HD2 : Hid (Drawn w w2 C B a len cap) := drawn_trans HD1.out hD
      have hw0 : IntKind.i64.wrap ((n : Int) + 1) = (n : Int) + 1 := IntWalk.i64_in _ (by omega)
      have a0 : (0 : Int) ≤ (n : Int) := by omega
      have a1 : (n : Int) ≤ (s.size : Int) := by omega
      have a2 : (n : Int) + 1 ≤ (s.size : Int) := by omega
      have a3 : (0 : Int) ≤ (n : Int) + 1 := by omega
      have hz1 : (s.extract 0 n).size ≤ 500000 := by rw [ByteArray.size_extract]; omega
      have hz2 : (s.extract (n + 1) s.size).size ≤ 500000 := by rw [ByteArray.size_extract]; omega
      have b1 : ¬9223372036854775807 < min n s.size + 1 := by omega
      have b2 : ¬9223372036854775807 < min n s.size + 1 + (s.size - (n + 1)) := by omega
      clear hD HD1
      go_wp2_with fail
      go_region_held3 (fun w' => Drawn w w' C B a len cap) (first | assumption | (exact P.drawn_drew HD2.out) | (refine sp_keep (by assumption) ?_; assumption)) (first | (go_at_call 44; refine (I.textD C B a len cap 1 (by omega) _ ?_ hB ?_).mono ?_; (exact (show Drawn _ _ _ _ _ _ _ by assumption).1); (exact (show Drawn _ _ _ _ _ _ _ by assumption).2.1); rintro e w3 ⟨t, rfl, ht, hD⟩))
      rename_i HH
      have HD3 : Hid (Drawn w w3 C B a len cap) := HH
      clear HH hD HD2
      go_wp2
      go_ret
      exact ⟨_, rfl, by simp only [ByteArray.size_append, ByteArray.size_extract]; omega, HD3.out⟩
    · have hp' : ¬ (0 : Int) < (s.size : Int) := by omega
      go_wp2
      go_ret
      exact ⟨s, rfl, by omega, HD1.out⟩
  · by_cases hp : 0 < s.size
    · have hp' : (0 : Int) < (s.size : Int) := by omega
      go_wp2_with fail
      refine (below28 C B a len cap (s.size : Int) (by omega) (by omega) _ HD1.out.1 hB HD1.out.2.1).mono ?_
      rintro e w2 ⟨x, rfl, x0, x1, hD⟩
      obtain ⟨n, rfl⟩ := Int.eq_ofNat_of_zero_le x0
      have hn : n < s.size := by omega
      have HD2 : Hid (Drawn w w2 C B a len cap) := drawn_trans HD1.out hD
      have hw0 : IntKind.i64.wrap ((n : Int) + 1) = (n : Int) + 1 := IntWalk.i64_in _ (by omega)
      have a0 : (0 : Int) ≤ (n : Int) := by omega
      have a1 : (n : Int) ≤ (s.size : Int) := by omega
      have a2 : (n : Int) + 1 ≤ (s.size : Int) := by omega
      have a3 : (0 : Int) ≤ (n : Int) + 1 := by omega
      have hz1 : (s.extract 0 n).size ≤ 500000 := by rw [ByteArray.size_extract]; omega
      have hz2 : (s.extract (n + 1) s.size).size ≤ 500000 := by rw [ByteArray.size_extract]; omega
      have b1 : ¬9223372036854775807 < min n s.size + 1 := by omega
      have b2 : ¬9223372036854775807 < min n s.size + 1 + (s.size - (n + 1)) := by omega
      clear hD HD1
      go_wp2_with fail
      go_region_held3 (fun w' => Drawn w w' C B a len cap) (first | assumption | (exact P.drawn_drew HD2.out) | (refine sp_keep (by assumption) ?_; assumption)) (first | (go_at_call 44; refine (I.textD C B a len cap 1 (by omega) _ ?_ hB ?_).mono ?_; (exact (show Drawn _ _ _ _ _ _ _ by assumption).1); (exact (show Drawn _ _ _ _ _ _ _ by assumption).2.1); rintro e w3 ⟨t, rfl, ht, hD⟩))
      rename_i HH
      have HD3 : Hid (Drawn w w3 C B a len cap) := HH
      clear HH hD HD2
      go_wp2
      go_ret
      exact ⟨_, rfl, by simp only [ByteArray.size_append, ByteArray.size_extract]; omega, HD3.out⟩
    · have hp' : ¬ (0 : Int) < (s.size : Int) := by omega
      go_wp2
      go_ret
      exact ⟨s, rfl, by omega, HD1.out⟩
  · go_wp2
    go_ret
    exact ⟨s, rfl, by omega, HD1.out⟩
end Go.Proofs.YticlbaopnbddbaaDoor
