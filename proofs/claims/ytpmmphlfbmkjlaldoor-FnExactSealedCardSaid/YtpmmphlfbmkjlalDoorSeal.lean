/-
  The contracts of Sealed, the program's and the specification's.
-/
import Derived.Test.YtpmmphlfbmkjlalDoorSum1
import Derived.Test.YtpmmphlfbmkjlalDoorSpec
namespace Go.Proofs.YtpmmphlfbmkjlalDoor
open Go.RowKit Go.PlainAid
set_option linter.unusedVariables false

/-- the sum of a text, in four bytes -/
def sigil (s : ByteArray) : ByteArray := ⟨(fourB (crc 4294967295 s.data.toList)).toArray⟩

theorem sigil_size (s : ByteArray) : (sigil s).size = 4 := rfl

theorem sumof_lt (s : ByteArray) : crc 4294967295 s.data.toList < 4294967296 := crc_lt (by omega) _

theorem seal17 (s : ByteArray) (hs : s.size ≤ 20000) (w : World) (ht : Tab w) :
    Calls Tryd.prog 17 #[.string s] w fun e w' => e = .returned (.tuple #[.string (s ++ sigil s), .bool true]) ∧ Below w.heap.size w w' := by
  have HS : Hid (sigil s = ⟨(fourB (crc 4294967295 s.data.toList)).toArray⟩) := rfl
  have hl := sumof_lt s
  go_enter Tryd.func17, Tryd.ntmps17
  go_wp2_with fail
  refine (sum15 s (by omega) _ ht).mono ?_
  rintro e w1 ⟨rfl, rfl⟩
  go_wp2_with fail
  refine (four22 _ hl _).mono ?_
  rintro e w2 ⟨rfl, hb⟩
  rw [← HS.out]
  have hz := sigil_size s
  obtain ⟨g, hg⟩ : ∃ g, g = sigil s := ⟨_, rfl⟩
  have HG : Hid (g = sigil s) := hg
  rw [← hg] at hz ⊢
  clear hg HS
  go_wp2
  go_ret2
  exact ⟨by rw [← HG.out]; rfl, hb⟩

theorem noseal17 (s : ByteArray) (hm : s.size ≤ 1048576) (hs : 20000 < s.size) (w : World) :
    Calls Tryd.prog 17 #[.string s] w fun e w' => e = .returned (.tuple #[.string ⟨#[]⟩, .bool false]) ∧ Below w.heap.size w w' := by
  go_enter Tryd.func17, Tryd.ntmps17
  go_wp2
  go_ret2
  exact ⟨rfl, Below.refl _ _⟩

theorem sseal16 (s : ByteArray) (hs : s.size ≤ 20000) (w : World) :
    Calls Tryd.prog 16 #[.string s] w fun e w' => e = .returned (.tuple #[.string (s ++ sigil s), .bool true]) ∧ Below w.heap.size w w' := by
  have HS : Hid (sigil s = ⟨(fourB (crc 4294967295 s.data.toList)).toArray⟩) := rfl
  have hl := sumof_lt s
  go_enter Tryd.func16, Tryd.ntmps16
  go_wp2_with fail
  refine (ssum14 s (by omega) _).mono ?_
  rintro e w1 ⟨rfl, rfl⟩
  go_wp2_with fail
  refine (sfour21 _ hl _).mono ?_
  rintro e w2 ⟨rfl, hb⟩
  rw [← HS.out]
  have hz := sigil_size s
  obtain ⟨g, hg⟩ : ∃ g, g = sigil s := ⟨_, rfl⟩
  have HG : Hid (g = sigil s) := hg
  rw [← hg] at hz ⊢
  clear hg HS
  go_wp2
  go_ret2
  exact ⟨by rw [← HG.out]; rfl, hb⟩
theorem nosseal16 (s : ByteArray) (hm : s.size ≤ 1048576) (hs : 20000 < s.size) (w : World) :
    Calls Tryd.prog 16 #[.string s] w fun e w' => e = .returned (.tuple #[.string ⟨#[]⟩, .bool false]) ∧ Below w.heap.size w w' := by
  go_enter Tryd.func16, Tryd.ntmps16
  go_wp2
  go_ret2
  exact ⟨rfl, Below.refl _ _⟩
end Go.Proofs.YtpmmphlfbmkjlalDoor
