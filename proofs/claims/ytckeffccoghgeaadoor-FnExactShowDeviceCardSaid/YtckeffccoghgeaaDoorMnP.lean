/-
  Menus of the specification: the top, Press.
-/
import Derived.Test.YtckeffccoghgeaaDoorMnS
namespace Go.Proofs.YtckeffccoghgeaaDoor
open Go.RowKit Go.PlainAid
set_option linter.unusedVariables false
set_option linter.unusedSimpArgs false

end Go.Proofs.YtckeffccoghgeaaDoor

namespace Go.Proofs.YtckeffccoghgeaaDoor
open Go.RowKit Go.PlainAid
set_option linter.unusedVariables false
set_option linter.unusedSimpArgs false

theorem menuokS' (a : Int) (b : Bool) (n d : Int) (s : List UInt8) (S : ByteArray) (hS : (⟨s.toArray⟩ : ByteArray) = S) (B : Bool) (hB : okM ⟨a, b, n, d, s⟩ = B) (w : World) : Calls Tryd.prog 30 #[.agg #[.int .i64 a, .bool b, .int .i64 n, .int .i64 d, .string S]] w fun e w' => e = .returned (.bool B) ∧ Below w.heap.size w w' := by
  subst hS
  exact menuokS ⟨a, b, n, d, s⟩ B hB w
theorem one_text (b : UInt8) (w : World) : (convert 67 9 (.slice (some ⟨w.heap.size, 0, none⟩) 1 1)).run Tryd.prog (w.alloc (.cells #[.int .u8 (b.toNat : Int)] 5)) = .ok (.string ⟨[b].toArray⟩) (w.alloc (.cells #[.int .u8 (b.toNat : Int)] 5)) :=
  run_convert_bytes_back (P := Tryd.prog) _ 67 9 5 ⟨w.heap.size, 0, none⟩ 1 [b] Tryd.underlying67 Tryd.underlying5 Tryd.underlying9 (fun j hj => by
    obtain rfl : j = 0 := by simpa using hj
    simp [Addr.add])
theorem key_byte {key : Int} (h : 48 ≤ key ∧ key ≤ 57) : ∃ x : UInt8, (x.toNat : Int) = key ∧ UInt8.ofNat key.toNat = x := by
  refine ⟨UInt8.ofNat key.toNat, ?_, rfl⟩
  have : (UInt8.ofNat key.toNat).toNat = key.toNat := by simp; omega
  rw [this]
  omega
end Go.Proofs.YtckeffccoghgeaaDoor
