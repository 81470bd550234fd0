/-
  No cell of these rows narrows 'for every input' (looked for: loops, veiled, ifaces, maps, wideKeys, modest, calm, conditions, laid).
  DERIVED. THE GIVEN ROWS OF THIS SEAT. 4 by the template 'for every input the law returns true; each argument reads behind the call as it read before'; 0 by the template 'total and deterministic' (their statements: YthnocibkgpofnaaTotals.lean).
  GIVEN WITH THE SEED: the statements are not yours to turn. If you find one false, say at which input.
  Laid BY PROGRAM, IN A SANDBOX (cutbox-rows.mjs): the forced cells as the released guide's own fill.sh prints them over the translation d740f5291afdc434… (all of the seat's roots in one cut). By AI agents, Wed Nov 11 2026. No macro, syntax, notation, axiom, sorry.
-/
import Derived.Test.YthnocibkgpofnaaChecked
import GoSem.Claim
import GoSem.ClaimJoined
import GoSem.ClaimMapViews
import Derived.JoinedTies
import Derived.KernelRfl
namespace Go.Proofs.Ythnocibkgpofnaa
/- THE CELL 'sum', in the pinned program and in every row, IS THE sha256 OF THE DUMP (.gsa) THAT YthnocibkgpofnaaProg.lean LOADS. Nothing in Lean hashes anything: it is a label: what it is worth is what the hold of that sum in a sandbox is worth. -/
noncomputable def Try.pinned : Pinned := { name := "ythnocibkgpofnaa", sum := "d740f5291afdc43438e23a5680226ea441f6c860a72ffce225a68c53cc5b83d5", checked := Try.checked }
namespace Rows
def none {H : Type} : Left H := { results := [], args := [] }

/-- 'laws.FnExactRunCost': WHATEVER THE INPUT: true; the input reads as it did. -/
def fnExactRunCostSpec : ChangeSpec := { name := "fnExactRunCost", fn := fun _ => fun
  | [d1, d2, d3, d4] => { results := [.lit (.bool true)], args := [d1, d2, d3, d4] }
  | _ => none }
def fnExactRunCostRow : OpenClaim := { program := "ythnocibkgpofnaa", sum := "d740f5291afdc43438e23a5680226ea441f6c860a72ffce225a68c53cc5b83d5", func := "loop.example/g00200/laws.FnExactRunCost", spec := "fnExactRunCost", unfollowed := true, recurses := true, apart := false }
def FnExactRunCostSaid : Prop := fnExactRunCostRow.holds Try.pinned (OpenSpec.ofChange fnExactRunCostSpec)

/-- ITS FALSE NEIGHBOUR: 'it returns false'. Refute it at one input. -/
def fnExactRunCostWrong : ChangeSpec := { name := "fnExactRunCost", fn := fun _ => fun
  | [d1, d2, d3, d4] => { results := [.lit (.bool false)], args := [d1, d2, d3, d4] }
  | _ => none }
def FnExactRunCostWrongFalsely : Prop := fnExactRunCostRow.holds Try.pinned (OpenSpec.ofChange fnExactRunCostWrong)

/-- 'laws.FnWorst': WHATEVER THE INPUT: true; the input reads as it did. -/
def fnWorstSpec : ChangeSpec := { name := "fnWorst", fn := fun _ => fun
  | [d] => { results := [.lit (.bool true)], args := [d] }
  | _ => none }
def fnWorstRow : OpenClaim := { program := "ythnocibkgpofnaa", sum := "d740f5291afdc43438e23a5680226ea441f6c860a72ffce225a68c53cc5b83d5", func := "loop.example/g00200/laws.FnWorst", spec := "fnWorst", unfollowed := true, recurses := true, apart := false }
def FnWorstSaid : Prop := fnWorstRow.holds Try.pinned (OpenSpec.ofChange fnWorstSpec)

/-- ITS FALSE NEIGHBOUR: 'it returns false'. Refute it at one input. -/
def fnWorstWrong : ChangeSpec := { name := "fnWorst", fn := fun _ => fun
  | [d] => { results := [.lit (.bool false)], args := [d] }
  | _ => none }
def FnWorstWrongFalsely : Prop := fnWorstRow.holds Try.pinned (OpenSpec.ofChange fnWorstWrong)

/-- 'laws.FnLoops': WHATEVER THE INPUT: true; the input reads as it did. -/
def fnLoopsSpec : ChangeSpec := { name := "fnLoops", fn := fun _ => fun
  | [d] => { results := [.lit (.bool true)], args := [d] }
  | _ => none }
def fnLoopsRow : OpenClaim := { program := "ythnocibkgpofnaa", sum := "d740f5291afdc43438e23a5680226ea441f6c860a72ffce225a68c53cc5b83d5", func := "loop.example/g00200/laws.FnLoops", spec := "fnLoops", unfollowed := true, recurses := true, apart := false }
def FnLoopsSaid : Prop := fnLoopsRow.holds Try.pinned (OpenSpec.ofChange fnLoopsSpec)

/-- ITS FALSE NEIGHBOUR: 'it returns false'. Refute it at one input. -/
def fnLoopsWrong : ChangeSpec := { name := "fnLoops", fn := fun _ => fun
  | [d] => { results := [.lit (.bool false)], args := [d] }
  | _ => none }
def FnLoopsWrongFalsely : Prop := fnLoopsRow.holds Try.pinned (OpenSpec.ofChange fnLoopsWrong)

/-- 'laws.FnRunCosts': WHATEVER THE INPUT: true; the input reads as it did. -/
def fnRunCostsSpec : ChangeSpec := { name := "fnRunCosts", fn := fun _ => fun
  | [d] => { results := [.lit (.bool true)], args := [d] }
  | _ => none }
def fnRunCostsRow : OpenClaim := { program := "ythnocibkgpofnaa", sum := "d740f5291afdc43438e23a5680226ea441f6c860a72ffce225a68c53cc5b83d5", func := "loop.example/g00200/laws.FnRunCosts", spec := "fnRunCosts", unfollowed := true, recurses := true, apart := false }
def FnRunCostsSaid : Prop := fnRunCostsRow.holds Try.pinned (OpenSpec.ofChange fnRunCostsSpec)

/-- ITS FALSE NEIGHBOUR: 'it returns false'. Refute it at one input. -/
def fnRunCostsWrong : ChangeSpec := { name := "fnRunCosts", fn := fun _ => fun
  | [d] => { results := [.lit (.bool false)], args := [d] }
  | _ => none }
def FnRunCostsWrongFalsely : Prop := fnRunCostsRow.holds Try.pinned (OpenSpec.ofChange fnRunCostsWrong)

/- THE SECOND FORM. 'bulk': how many values and letters a reading holds, each counted each time it is reached (what is shared counts as often as it is met; a slice's spare places count too). A statement '..UptoSaid' is the law's where the arguments, and the package variables that the reading takes, are together of bulk at most 1048576: NARROWER than '..Said'. Prove '..Said' where nothing that the law and all that it calls make is longer than what came in: it says more and counts as full. Else prove '..UptoSaid'. A law counts once. -/
mutual
def uptoBulk {H : Type} : DataW H → Nat
  | .lit (.string bytes) => bytes.length + 1
  | .lit _ => 1
  | .nil => 1
  | .ptr d => uptoBulk d + 1
  | .slice elems spare => uptoBulkAll elems + uptoBulkAll spare + 1
  | .agg parts => uptoBulkAll parts + 1
  | .iface _ d => uptoBulk d + 1
  | .map entries => uptoBulkEntries entries + 1
  | .held _ => 1
def uptoBulkAll {H : Type} : List (DataW H) → Nat
  | [] => 0
  | d :: r => uptoBulk d + uptoBulkAll r
def uptoBulkEntries {H : Type} : List (Lit × DataW H) → Nat
  | [] => 0
  | x :: r => uptoBulkEntry x + uptoBulkEntries r
def uptoBulkEntry {H : Type} : Lit × DataW H → Nat
  | (.string bytes, d) => bytes.length + uptoBulk d + 1
  | (_, d) => uptoBulk d + 1
 end
def uptoSmall : (H : Type) → List (DataW H) → Bool := fun _ ds => decide (uptoBulkAll ds ≤ 1048576)
def OpenSpec.upto (s : _root_.Go.ChangeSpec) : _root_.Go.OpenSpec := { _root_.Go.OpenSpec.ofChange s with cond := some uptoSmall }

/-- 'laws.FnExactRunCost', WHERE WHAT IT READS IS OF BULK AT MOST 1048576: true; the input reads as it did. -/
def fnExactRunCostUptoRow : OpenClaim := { program := "ythnocibkgpofnaa", sum := "d740f5291afdc43438e23a5680226ea441f6c860a72ffce225a68c53cc5b83d5", func := "loop.example/g00200/laws.FnExactRunCost", spec := "fnExactRunCost", unfollowed := true, recurses := true, apart := false, narrowed := true }
def FnExactRunCostUptoSaid : Prop := fnExactRunCostUptoRow.holds Try.pinned (OpenSpec.upto fnExactRunCostSpec)

/-- 'laws.FnWorst', WHERE WHAT IT READS IS OF BULK AT MOST 1048576: true; the input reads as it did. -/
def fnWorstUptoRow : OpenClaim := { program := "ythnocibkgpofnaa", sum := "d740f5291afdc43438e23a5680226ea441f6c860a72ffce225a68c53cc5b83d5", func := "loop.example/g00200/laws.FnWorst", spec := "fnWorst", unfollowed := true, recurses := true, apart := false, narrowed := true }
def FnWorstUptoSaid : Prop := fnWorstUptoRow.holds Try.pinned (OpenSpec.upto fnWorstSpec)

/-- 'laws.FnLoops', WHERE WHAT IT READS IS OF BULK AT MOST 1048576: true; the input reads as it did. -/
def fnLoopsUptoRow : OpenClaim := { program := "ythnocibkgpofnaa", sum := "d740f5291afdc43438e23a5680226ea441f6c860a72ffce225a68c53cc5b83d5", func := "loop.example/g00200/laws.FnLoops", spec := "fnLoops", unfollowed := true, recurses := true, apart := false, narrowed := true }
def FnLoopsUptoSaid : Prop := fnLoopsUptoRow.holds Try.pinned (OpenSpec.upto fnLoopsSpec)

/-- 'laws.FnRunCosts', WHERE WHAT IT READS IS OF BULK AT MOST 1048576: true; the input reads as it did. -/
def fnRunCostsUptoRow : OpenClaim := { program := "ythnocibkgpofnaa", sum := "d740f5291afdc43438e23a5680226ea441f6c860a72ffce225a68c53cc5b83d5", func := "loop.example/g00200/laws.FnRunCosts", spec := "fnRunCosts", unfollowed := true, recurses := true, apart := false, narrowed := true }
def FnRunCostsUptoSaid : Prop := fnRunCostsUptoRow.holds Try.pinned (OpenSpec.upto fnRunCostsSpec)

end Rows
end Go.Proofs.Ythnocibkgpofnaa
