/-
  The contracts of Sealed, the program's and the specification's.
-/
import Derived.Test.YticlbaopnbddbaaDoorQUn
namespace Go.Proofs.YticlbaopnbddbaaDoor.Q
open Go.RowKit Go.PlainAid
set_option linter.unusedVariables false

theorem sealI (s : ByteArray) (hs : s.size ≤ 20000) (w : World) (ht : Tab w) :
    Calls Tryd.prog 22 #[.string s] w fun e w' => e = .returned (.tuple #[.string (s ++ sigil s), .bool true]) ∧ Below w.heap.size w w' := by
  have HS : Hid (sigil s = ⟨(fourB (crc 4294967295 s.data.toList)).toArray⟩) := rfl
  have hl := sumof_lt s
  go_enter Tryd.func22, Tryd.ntmps22
  go_wp2_with fail
  refine (sum8 s (by omega) _ ht).mono ?_
  rintro e w1 ⟨rfl, rfl⟩
  go_wp2_with fail
  refine (four9 _ hl _).mono ?_
  rintro e w2 ⟨rfl, hb⟩
  rw [← HS.out]
  have hz := sigil_size s
  obtain ⟨g, hg⟩ : ∃ g, g = sigil s := ⟨_, rfl⟩
  have HG : Hid (g = sigil s) := hg
  rw [← hg] at hz ⊢
  clear hg HS
  go_wp2
  go_ret2
  exact ⟨by rw [← HG.out]; rfl, hb⟩

theorem nosealI (s : ByteArray) (hm : s.size ≤ 1048576) (hs : 20000 < s.size) (w : World) :
    Calls Tryd.prog 22 #[.string s] w fun e w' => e = .returned (.tuple #[.string ⟨#[]⟩, .bool false]) ∧ Below w.heap.size w w' := by
  go_enter Tryd.func22, Tryd.ntmps22
  go_wp2
  go_ret2
  exact ⟨rfl, Below.refl _ _⟩

theorem sealS (s : ByteArray) (hs : s.size ≤ 20000) (w : World) :
    Calls Tryd.prog 30 #[.string s] w fun e w' => e = .returned (.tuple #[.string (s ++ sigil s), .bool true]) ∧ Below w.heap.size w w' := by
  have HS : Hid (sigil s = ⟨(fourB (crc 4294967295 s.data.toList)).toArray⟩) := rfl
  have hl := sumof_lt s
  go_enter Tryd.func30, Tryd.ntmps30
  go_wp2_with fail
  refine (ssum7 s (by omega) _).mono ?_
  rintro e w1 ⟨rfl, rfl⟩
  go_wp2_with fail
  refine (sfour6 _ hl _).mono ?_
  rintro e w2 ⟨rfl, hb⟩
  rw [← HS.out]
  have hz := sigil_size s
  obtain ⟨g, hg⟩ : ∃ g, g = sigil s := ⟨_, rfl⟩
  have HG : Hid (g = sigil s) := hg
  rw [← hg] at hz ⊢
  clear hg HS
  go_wp2
  go_ret2
  exact ⟨by rw [← HG.out]; rfl, hb⟩
theorem nosealS (s : ByteArray) (hm : s.size ≤ 1048576) (hs : 20000 < s.size) (w : World) :
    Calls Tryd.prog 30 #[.string s] w fun e w' => e = .returned (.tuple #[.string ⟨#[]⟩, .bool false]) ∧ Below w.heap.size w w' := by
  go_enter Tryd.func30, Tryd.ntmps30
  go_wp2
  go_ret2
  exact ⟨rfl, Below.refl _ _⟩
end Go.Proofs.YticlbaopnbddbaaDoor.Q
