/-
  Answers, with their results named.
-/
import Derived.Test.YthnocibkgpofnaaCpu3
namespace Go.Proofs.Ythnocibkgpofnaa
open Go.RowKit Go.PlainAid
set_option linter.unusedVariables false
theorem answerI' (a : Option Addr) (pc : Int) (l : List Int) (n cap : Nat) (x : Int) (b : Bool) (N : Nat) (E : List Int) (hl : l.length = n) (hn : n ≤ 1048576) (hb : b = true ↔ (CpuR pc l ∧ n ≠ 8)) (hN : (if b then n + 1 else n) = N) (hE : (if b then l ++ [x % 65536] else l) = E) (w : World) (hr : Rd w a l) :
    Calls Try.prog 62 #[.agg #[.int .i64 pc, .slice a n cap], .int .i64 x] w fun e w' => ∃ g c, e = .returned (.tuple #[.agg #[.int .i64 pc, .slice (some ⟨g, 0, none⟩) N c], .bool b]) ∧ OwnN w' w.heap.size g N c E ∧ Below w.heap.size w w' := by
  subst hN hE; exact answerI a pc l n cap x b hl hn hb w hr
theorem answerS' (a : Option Addr) (pc : Int) (l : List Int) (n cap : Nat) (x : Int) (b : Bool) (N : Nat) (E : List Int) (hl : l.length = n) (hn : n ≤ 1048576) (ha : a = none → n = 0 ∧ cap = 0) (hb : b = true ↔ (CpuR pc l ∧ n ≠ 8)) (hN : (if b then n + 1 else n) = N) (hE : (if b then l ++ [x % 65536] else l) = E) (w : World) (hr : Rd w a l) :
    Calls Try.prog 30 #[.agg #[.int .i64 pc, .slice a n cap], .int .i64 x] w fun e w' => ∃ g c, e = .returned (.tuple #[.agg #[.int .i64 pc, .slice (some ⟨g, 0, none⟩) N c], .bool b]) ∧ OwnN w' w.heap.size g N c E ∧ Below w.heap.size w w' := by
  subst hN hE; exact answerS a pc l n cap x b hl hn ha hb w hr
end Go.Proofs.Ythnocibkgpofnaa
