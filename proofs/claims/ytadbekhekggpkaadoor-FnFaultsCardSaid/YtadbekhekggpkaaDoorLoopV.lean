/-
  The contracts of ReadVar, the program's and the specification's.
-/
import Derived.Test.YtadbekhekggpkaaDoorReadV
namespace Go.Proofs.YtadbekhekggpkaaDoor.V
open Go.RowKit Plain Go.PlainAid
set_option linter.unusedVariables false

theorem rvF_fin {s : ByteArray} {a f k : Nat} {N S : Int} (h : k < s.size) (h' : bt s k < 128) : rvF s a (f + 1) k N S = fin s a (k + 1) (N + bt s k % 128 * S) := by
  rw [rvF, if_pos h, if_pos h']
theorem rvF_on {s : ByteArray} {a f k : Nat} {N S : Int} (h : k < s.size) (h' : ¬ bt s k < 128) : rvF s a (f + 1) k N S = rvF s a f (k + 1) (N + bt s k % 128 * S) (S * 128) := by
  rw [rvF, if_pos h, if_neg h']
theorem rvF_end {s : ByteArray} {a f k : Nat} {N S : Int} (h : ¬ k < s.size) : rvF s a f k N S = none := by
  cases f with
  | zero => rfl
  | succ f => rw [rvF, if_neg h]

theorem cut_run (s : ByteArray) (a k : Nat) (h : a ≤ k + 1) (h1 : k < s.size) (w : World) :
    (Instr.slice 9 (.string s) (some (.int .i64 (a : Int))) (some (.int .i64 ((k : Int) + 1))) none).run Tryd.prog w = .ok (.string (s.extract a (k + 1))) w := by
  rw [run_slice_string_if w 9 s .i64 .i64 (a : Int) ((k : Int) + 1) Tryd.underlying9, if_pos (by omega), if_pos (by omega)]
  rfl

theorem var22' (N : Int) (h0 : 0 ≤ N) (hN : N ≤ 1000000000) (w : World) :
    Calls Tryd.prog 40 #[.int .i64 N] w fun e w' => e = .returned (.string ⟨(vt N.toNat).toArray⟩) ∧ Below w.heap.size w w' := by
  obtain ⟨n, rfl⟩ := Int.eq_ofNat_of_zero_le h0
  exact var22 n (by omega) w

end Go.Proofs.YtadbekhekggpkaaDoor.V
