/-
  Menus of the specification: Press.
-/
import Derived.Test.YtbcegpncledolaaMnT
namespace Go.Proofs.Ytbcegpncledolaa
open Go.RowKit Go.PlainAid
set_option linter.unusedVariables false
set_option linter.unusedSimpArgs false

theorem menuokS' (a : Int) (b : Bool) (n d : Int) (s : List UInt8) (S : ByteArray) (hS : (⟨s.toArray⟩ : ByteArray) = S) (B : Bool) (hB : okM ⟨a, b, n, d, s⟩ = B) (w : World) : Calls Try.prog 38 #[.agg #[.int .i64 a, .bool b, .int .i64 n, .int .i64 d, .string S]] w fun e w' => e = .returned (.bool B) ∧ Below w.heap.size w w' := by
  subst hS
  exact menuokS ⟨a, b, n, d, s⟩ B hB w
theorem key_byte {key : Int} (h : 48 ≤ key ∧ key ≤ 57) : ∃ x : UInt8, (x.toNat : Int) = key ∧ UInt8.ofNat key.toNat = x := by
  refine ⟨UInt8.ofNat key.toNat, ?_, rfl⟩
  have : (UInt8.ofNat key.toNat).toNat = key.toNat := by simp; omega
  rw [this]
  omega
end Go.Proofs.Ytbcegpncledolaa
