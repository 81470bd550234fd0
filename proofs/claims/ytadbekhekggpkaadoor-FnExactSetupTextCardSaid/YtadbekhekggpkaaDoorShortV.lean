/-
  The contracts of ShortText, the program's and the specification's.
-/
import Derived.Test.YtadbekhekggpkaaDoorVarV
namespace Go.Proofs.YtadbekhekggpkaaDoor.V
open Go.RowKit Plain Go.PlainAid
set_option linter.unusedVariables false

theorem vt_size (n : Nat) : (ByteArray.mk (vt n).toArray).size ≤ n + 1 := by
  show (vt n).toArray.size ≤ n + 1
  rw [List.size_toArray]
  exact vt_len n n (Nat.le_refl _)

set_option maxRecDepth 100000 in
set_option maxHeartbeats 400000 in
theorem st14 (s : ByteArray) (hs : s.size ≤ 20000) (w : World) :
    Calls Tryd.prog 70 #[.string s] w fun e w' => e = .returned (.tuple #[.string (⟨(vt s.size).toArray⟩ ++ s), .bool true]) ∧ Below w.heap.size w w' := by
  have hsz := vt_size s.size
  go_enter Tryd.func70, Tryd.ntmps70
  go_wp2_with fail
  refine (var10 s.size (by omega) _).mono ?_
  rintro e w1 ⟨rfl, hb⟩
  go_wp2
  go_ret2
  exact ⟨rfl, hb⟩

theorem nost14 (s : ByteArray) (hs : 20000 < s.size) (w : World) :
    Calls Tryd.prog 70 #[.string s] w fun e w' => e = .returned (.tuple #[.string ⟨#[]⟩, .bool false]) ∧ Below w.heap.size w w' := by
  go_enter Tryd.func70, Tryd.ntmps70
  go_wp2
  go_ret2
  exact ⟨rfl, Below.refl _ _⟩
end Go.Proofs.YtadbekhekggpkaaDoor.V
