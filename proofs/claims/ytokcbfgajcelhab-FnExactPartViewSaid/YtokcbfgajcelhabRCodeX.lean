/-
  Code out of bytes: the contracts of ReadCode, the program's and the specification's.
-/
import Derived.Test.YtokcbfgajcelhabOwnII
namespace Go.Proofs.Ytokcbfgajcelhab.I
open Go.RowKit Go.PlainAid
set_option linter.unusedVariables false

/-- the first j instructions of a text -/
def rcL (s : ByteArray) (j : Nat) : List (Int × Int) := (List.range j).map fun i => (bt s (2 * i), bt s (2 * i + 1))
theorem rcL_len (s : ByteArray) (j : Nat) : (rcL s j).length = j := by simp [rcL]
theorem rcL_succ (s : ByteArray) (j : Nat) : rcL s (j + 1) = rcL s j ++ [(bt s (2 * j), bt s (2 * j + 1))] := by simp [rcL, List.range_succ]
def rcV (s : ByteArray) : Bool → List (Int × Int)
  | true => rcL s (s.size / 2)
  | false => []
def RcOk (s : ByteArray) : Prop := s.size % 2 = 0 ∧ s.size ≤ 120
theorem rc_bool (s : ByteArray) : ∃ b : Bool, b = true ↔ RcOk s := by
  by_cases hk : RcOk s
  · exact ⟨true, ⟨fun _ => hk, fun _ => rfl⟩⟩
  · exact ⟨false, ⟨fun h => (by cases h), fun h => absurd h hk⟩⟩
theorem rcV_len {s : ByteArray} {b : Bool} (hb : b = true ↔ RcOk s) : (rcV s b).length ≤ 60 := by
  cases b
  · simp [rcV]
  · have := (hb.1 rfl).2
    simp only [rcV, rcL_len]
    omega
theorem ix_run (s : ByteArray) (k : Nat) (h : k < s.size) (x : Int) (hx : x = k) (w : World) : (Instr.index 9 (.string s) (.int .i64 x)).run Try.prog w = .ok (.int .u8 (bt s k)) w := by
  subst hx
  have hx : 0 ≤ (k : Int) ∧ (k : Int) < s.size := by omega
  rw [run_index_string w 9 _ .i64 (k : Int) Try.underlying9, dif_pos hx, ← get_bt s k h]
  rfl
end Go.Proofs.Ytokcbfgajcelhab.I
