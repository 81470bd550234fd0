/-
  Lists of bytes that a call owns; the bytes of code.
-/
import Derived.Test.YtadbekhekggpkaaDoorCodeI
import Derived.Test.YtadbekhekggpkaaDoorBytes0X
namespace Go.Proofs.YtadbekhekggpkaaDoor.I
open Go.RowKit Go.PlainAid
set_option linter.unusedVariables false

def bOf (x : Int) : UInt8 := UInt8.ofNat x.toNat
theorem bOf_nat {x : Int} (h : isB x) : ((bOf x).toNat : Int) = x := by
  unfold isB at h
  unfold bOf
  rw [UInt8.toNat_ofNat']
  omega
theorem bOf_back (c : UInt8) : bOf (c.toNat : Int) = c := by
  unfold bOf
  rw [Int.toNat_natCast, UInt8.ofNat_toNat]
/-- the bytes of code -/
def codeB : List (Int × Int) → List UInt8
  | [] => []
  | r :: t => bOf r.1 :: bOf r.2 :: codeB t
theorem codeB_len : ∀ rl : List (Int × Int), (codeB rl).length = 2 * rl.length
  | [] => rfl
  | r :: t => by simp [codeB, codeB_len t]; omega
theorem codeB_app : ∀ x y : List (Int × Int), codeB (x ++ y) = codeB x ++ codeB y
  | [], y => rfl
  | r :: t, y => by simp [codeB, codeB_app t y]
theorem codeB_take {rl : List (Int × Int)} {j : Nat} (h : j < rl.length) : codeB (rl.take (j + 1)) = codeB (rl.take j) ++ [bOf rl[j].1, bOf rl[j].2] := by
  rw [List.take_succ_eq_append_getElem h, codeB_app]; rfl
theorem codeB_all {rl : List (Int × Int)} {n : Nat} (h : rl.length = n) : codeB (rl.take n) = codeB rl := by rw [List.take_of_length_le (by omega)]
theorem two_news {f s : Int} (hf : isB f) (hs : isB s) : [Value.int .u8 f, .int .u8 s] = bytesV [bOf f, bOf s] := by
  simp [bytesV, bOf_nat hf, bOf_nat hs]
/-- what CodeText answers -/
def ctV (rl : List (Int × Int)) : Bool → Value
  | true => .tuple #[.string ⟨(codeB rl).toArray⟩, .bool true]
  | false => .tuple #[.string ⟨#[]⟩, .bool false]

end Go.Proofs.YtadbekhekggpkaaDoor.I
