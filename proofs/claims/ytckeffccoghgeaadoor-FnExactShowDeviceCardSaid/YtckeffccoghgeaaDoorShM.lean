/-
  The text of a device.
-/
import Derived.Test.YtckeffccoghgeaaDoorJX
import Derived.Test.YtckeffccoghgeaaDoorJD
import Derived.Test.YtckeffccoghgeaaDoorDMath2
import Derived.Test.YtckeffccoghgeaaDoorDvS
import Derived.Test.YtckeffccoghgeaaDoorDvT0
namespace Go.Proofs.YtckeffccoghgeaaDoor
open Go.ChangeShapes Go.WideShapes Go.ChangeAt Go.RowKit Go.Deep Go.PlainAid
open Go.Lib (decDigits itoa)
set_option linter.unusedVariables false
set_option linter.unusedSimpArgs false

def decT (n : Int) : ByteArray := ⟨(itoa n).toArray⟩
def shT (x y z t : ByteArray) : ByteArray := ⟨#[115, 116, 97, 116, 101, 32]⟩ ++ x ++ ⟨#[32, 103, 105, 118, 101, 110, 32]⟩ ++ y ++ ⟨#[32, 108, 101, 102, 116, 32]⟩ ++ z ++ ⟨#[32, 97, 108, 97, 114, 109, 32]⟩ ++ t ++ ⟨#[10]⟩
/-- what is shown of a device: nothing of one that is not right -/
def shB (B : Bool) (p : Pm) (al : Int) : ByteArray := if B then shT (decT p.s) (decT p.g) (decT p.l) (J.nameN al) else ⟨#[]⟩
theorem shB_no (p : Pm) (al : Int) : shB false p al = ⟨#[]⟩ := rfl
theorem shB_yes (p : Pm) (al : Int) : shB true p al = shT (decT p.s) (decT p.g) (decT p.l) (J.nameN al) := rfl
theorem dig_le : ∀ (k m : Nat), m < 10 ^ (k + 1) → (decDigits m).length ≤ k + 1 := Plain.dec_len
theorem decT_size (n : Int) (h0 : 0 ≤ n) (h1 : n ≤ 1000000000000) : (decT n).size ≤ 20 := by
  obtain ⟨u, rfl⟩ := Int.eq_ofNat_of_zero_le h0
  have h := dig_le 19 u (by omega)
  have e : itoa (u : Int) = decDigits u := Plain.itoa_pos
  unfold decT
  rw [e]
  show (decDigits u).toArray.size ≤ 20
  rw [List.size_toArray]
  omega
theorem name_size (n : Int) : (J.nameN n).size ≤ 20 := by
  unfold J.nameN
  split
  · rename_i h
    have f := J.felt_fin ⟨n.toNat, by omega⟩
    have e1 : ((n.toNat : Nat) : Int) = n := by omega
    simp only [e1] at f
    unfold J.nameB
    split
    · decide
    · show (Lib.join _ [44]).toArray.size ≤ 20
      rw [List.size_toArray]
      exact f.2
  · decide
theorem dev_parts {P Gk Mk : Bool} {p : Pm} {l : List Int} {al : Int} {tn : Nat} {rf : Int} (hP : P = true ↔ p.ok) (h : devB P Gk Mk tn rf = true) : (0 ≤ p.s ∧ p.s ≤ 1000000000000) ∧ (0 ≤ p.g ∧ p.g ≤ 1000000000000) ∧ (0 ≤ p.l ∧ p.l ≤ 1000000000000) := by
  have hp : P = true := by
    unfold devB at h
    cases P
    · simp at h
    · rfl
  obtain ⟨h1, h2, h3, h4, h5, h6, h7, h8, h9⟩ := hP.1 hp
  omega
end Go.Proofs.YtckeffccoghgeaaDoor
