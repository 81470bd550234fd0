/-
  Assemble's helpers: a text cut at its first line, the instruction that parts tell: the contracts of the program's.
-/
import Derived.Test.YtbcphgmcjickgaaDoorAMath
import Derived.Test.YtbcphgmcjickgaaDoorOpsM
import Derived.Test.YtbcphgmcjickgaaDoorRdDec5
import Derived.Test.YtbcphgmcjickgaaDoorParts15
import Derived.Test.YtbcphgmcjickgaaDoorCode
namespace Go.Proofs.YtbcphgmcjickgaaDoor
open Go.RowKit Plain Go.PlainAid Go.Maps
open Go.Lib (decDigits itoa indexByte)
set_option linter.unusedVariables false

set_option maxRecDepth 100000 in
set_option maxHeartbeats 1000000 in
theorem cut0 (s : ByteArray) (hs : s.size ≤ 1048576) (hp : 0 < s.size) (w : World) :
    Calls Tryd.prog 55 #[.string s, .string ⟨#[10]⟩] w fun e w' => ∃ (l r : ByteArray) (f : Bool) (q : Nat), e = .returned (.tuple #[.string l, .string r, .bool f]) ∧ linesOf s = l :: linesOf r ∧ l.size ≤ s.size ∧ r.size < s.size ∧ w' = w.drewN q := by
  rcases index_spec s.data.toList 10 with ⟨h1, h2⟩ | ⟨i, h1, h2, h3, h4⟩
  · have HL : Hid (linesOf s = s :: linesOf ⟨#[]⟩) := by
      show _ = _
      rw [lines_all hp h2, lines_nil (s := ⟨#[]⟩) rfl]
    go_enter Tryd.func55, Tryd.ntmps55
    go_wp2_with fail
    refine (Tryd.stringslite_Index_one s 10 _).mono ?_
    rintro e w1 ⟨rfl, rfl⟩
    rw [h1]
    clear h1 h2
    go_wp2
    go_ret3
    exact ⟨s, ⟨#[]⟩, false, 0, rfl, HL.out, Nat.le_refl _, hp, rfl⟩
  · have hl : s.data.toList.length = s.size := Array.length_toList
    have HL : Hid (linesOf s = s.extract 0 i :: linesOf (s.extract (i + 1) s.size)) := lines_cut h3 h4
    have hi : i < s.size := by omega
    have a0 : (0 : Int) ≤ (i : Int) := by omega
    have a1 : (i : Int) ≤ (s.size : Int) := by omega
    have a2 : (i : Int) + 1 ≤ (s.size : Int) := by omega
    have a3 : (0 : Int) ≤ (i : Int) + 1 := by omega
    have hw0 : IntKind.i64.wrap ((i : Int) + 1) = (i : Int) + 1 := wrap_in (by omega) (by omega)
    go_enter Tryd.func55, Tryd.ntmps55
    go_wp2_with fail
    refine (Tryd.stringslite_Index_one s 10 _).mono ?_
    rintro e w1 ⟨rfl, rfl⟩
    rw [h1]
    clear h1 h2 h3 h4 hl
    go_wp2
    go_quiet (fail)
    go_wp2
    go_ret3
    exact ⟨_, _, true, nq, rfl, HL.out, by rw [ByteArray.size_extract]; omega, by rw [ByteArray.size_extract]; omega, rfl⟩

set_option maxRecDepth 100000 in
theorem cutI (s : ByteArray) (hs : s.size ≤ 1048576) (hp : 0 < s.size) (w : World) :
    Calls Tryd.prog 35 #[.string s, .string ⟨#[10]⟩] w fun e w' => ∃ (l r : ByteArray) (f : Bool), e = .returned (.tuple #[.string l, .string r, .bool f]) ∧ linesOf s = l :: linesOf r ∧ l.size ≤ s.size ∧ r.size < s.size ∧ Below w.heap.size w w' := by
  go_enter Tryd.func35, Tryd.ntmps35
  go_wp2_with fail
  refine (cut0 s hs hp _).mono ?_
  rintro e w1 ⟨l, r, f, q, rfl, h1, h2, h3, hw⟩
  have HL : Hid (linesOf s = l :: linesOf r) := h1
  have HB : Hid (Below w.heap.size w w1) := by rw [hw]; exact below_drewN (Below.refl _ _) _
  clear h1 hw
  go_wp2
  go_ret3
  exact ⟨l, r, f, rfl, HL.out, h2, h3, HB.out⟩
end Go.Proofs.YtbcphgmcjickgaaDoor
