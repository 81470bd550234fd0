/-
  Plain facts on decimal figures, of no program. No conditions.
-/
import Derived.Lib.ItoaNum
namespace Go.Proofs.YtfhhnelffldggaaGreatDoor.Plain
open Go.Lib
def fb (r : Nat) : UInt8 := UInt8.ofNat (48 + r)
def Rd (l : List UInt8) (r : Option Nat) : Prop := (∀ n, r = some n → n ≤ 1000000000 ∧ decDigits n = l) ∧ (r = none → ∀ m, m ≤ 1000000000 → decDigits m ≠ l)
end Go.Proofs.YtfhhnelffldggaaGreatDoor.Plain
