/-
  No cell of these rows narrows 'for every input' (looked for: loops, veiled, ifaces, maps, wideKeys, modest, calm, conditions, laid).
  DERIVED. THE GIVEN ROWS OF THIS SEAT. 5 by the template 'for every input the law returns true; each argument reads behind the call as it read before'; 0 by the template 'total and deterministic' (their statements: YtcjidlbpkijmnamTotals.lean).
  GIVEN WITH THE SEED: the statements are not yours to turn. If you find one false, say at which input.
  Laid BY PROGRAM, IN A SANDBOX (cutbox-rows.mjs): the forced cells as the released guide's own fill.sh prints them over the translation b74c7a5db87215f3… (all of the seat's roots in one cut). By AI agents, Wed Nov 11 2026. No macro, syntax, notation, axiom, sorry.
-/
import Derived.Test.YtcjidlbpkijmnamChecked
import GoSem.Claim
import GoSem.ClaimJoined
import GoSem.ClaimMapViews
import Derived.JoinedTies
import Derived.KernelRfl
namespace Go.Proofs.Ytcjidlbpkijmnam
/- THE CELL 'sum', in the pinned program and in every row, IS THE sha256 OF THE DUMP (.gsa) THAT YtcjidlbpkijmnamProg.lean LOADS. Nothing in Lean hashes anything: it is a label: what it is worth is what the hold of that sum in a sandbox is worth. -/
noncomputable def Try.pinned : Pinned := { name := "ytcjidlbpkijmnam", sum := "b74c7a5db87215f3aa6292f7f6cd1515b98d39c88822615be35dea6fbc8038e2", checked := Try.checked }
namespace Rows
def none {H : Type} : Left H := { results := [], args := [] }

/-- 'laws.FnExactAddSat': WHATEVER THE INPUT: true; the input reads as it did. -/
def fnExactAddSatSpec : ChangeSpec := { name := "fnExactAddSat", fn := fun _ => fun
  | [d1, d2] => { results := [.lit (.bool true)], args := [d1, d2] }
  | _ => none }
def fnExactAddSatRow : OpenClaim := { program := "ytcjidlbpkijmnam", sum := "b74c7a5db87215f3aa6292f7f6cd1515b98d39c88822615be35dea6fbc8038e2", func := "loop.example/g00200/laws.FnExactAddSat", spec := "fnExactAddSat", apart := false }
def FnExactAddSatSaid : Prop := fnExactAddSatRow.holds Try.pinned (OpenSpec.ofChange fnExactAddSatSpec)

/-- ITS FALSE NEIGHBOUR: 'it returns false'. Refute it at one input. -/
def fnExactAddSatWrong : ChangeSpec := { name := "fnExactAddSat", fn := fun _ => fun
  | [d1, d2] => { results := [.lit (.bool false)], args := [d1, d2] }
  | _ => none }
def FnExactAddSatWrongFalsely : Prop := fnExactAddSatRow.holds Try.pinned (OpenSpec.ofChange fnExactAddSatWrong)

/-- 'laws.FnExactMulSat': WHATEVER THE INPUT: true; the input reads as it did. -/
def fnExactMulSatSpec : ChangeSpec := { name := "fnExactMulSat", fn := fun _ => fun
  | [d1, d2] => { results := [.lit (.bool true)], args := [d1, d2] }
  | _ => none }
def fnExactMulSatRow : OpenClaim := { program := "ytcjidlbpkijmnam", sum := "b74c7a5db87215f3aa6292f7f6cd1515b98d39c88822615be35dea6fbc8038e2", func := "loop.example/g00200/laws.FnExactMulSat", spec := "fnExactMulSat", apart := false }
def FnExactMulSatSaid : Prop := fnExactMulSatRow.holds Try.pinned (OpenSpec.ofChange fnExactMulSatSpec)

/-- ITS FALSE NEIGHBOUR: 'it returns false'. Refute it at one input. -/
def fnExactMulSatWrong : ChangeSpec := { name := "fnExactMulSat", fn := fun _ => fun
  | [d1, d2] => { results := [.lit (.bool false)], args := [d1, d2] }
  | _ => none }
def FnExactMulSatWrongFalsely : Prop := fnExactMulSatRow.holds Try.pinned (OpenSpec.ofChange fnExactMulSatWrong)

/-- 'laws.FnExactRateOk': WHATEVER THE INPUT: true; the input reads as it did. -/
def fnExactRateOkSpec : ChangeSpec := { name := "fnExactRateOk", fn := fun _ => fun
  | [d] => { results := [.lit (.bool true)], args := [d] }
  | _ => none }
def fnExactRateOkRow : OpenClaim := { program := "ytcjidlbpkijmnam", sum := "b74c7a5db87215f3aa6292f7f6cd1515b98d39c88822615be35dea6fbc8038e2", func := "loop.example/g00200/laws.FnExactRateOk", spec := "fnExactRateOk", apart := false }
def FnExactRateOkSaid : Prop := fnExactRateOkRow.holds Try.pinned (OpenSpec.ofChange fnExactRateOkSpec)

/-- ITS FALSE NEIGHBOUR: 'it returns false'. Refute it at one input. -/
def fnExactRateOkWrong : ChangeSpec := { name := "fnExactRateOk", fn := fun _ => fun
  | [d] => { results := [.lit (.bool false)], args := [d] }
  | _ => none }
def FnExactRateOkWrongFalsely : Prop := fnExactRateOkRow.holds Try.pinned (OpenSpec.ofChange fnExactRateOkWrong)

/-- 'laws.FnExactStepRate': WHATEVER THE INPUT: true; the input reads as it did. -/
def fnExactStepRateSpec : ChangeSpec := { name := "fnExactStepRate", fn := fun _ => fun
  | [d] => { results := [.lit (.bool true)], args := [d] }
  | _ => none }
def fnExactStepRateRow : OpenClaim := { program := "ytcjidlbpkijmnam", sum := "b74c7a5db87215f3aa6292f7f6cd1515b98d39c88822615be35dea6fbc8038e2", func := "loop.example/g00200/laws.FnExactStepRate", spec := "fnExactStepRate", apart := false }
def FnExactStepRateSaid : Prop := fnExactStepRateRow.holds Try.pinned (OpenSpec.ofChange fnExactStepRateSpec)

/-- ITS FALSE NEIGHBOUR: 'it returns false'. Refute it at one input. -/
def fnExactStepRateWrong : ChangeSpec := { name := "fnExactStepRate", fn := fun _ => fun
  | [d] => { results := [.lit (.bool false)], args := [d] }
  | _ => none }
def FnExactStepRateWrongFalsely : Prop := fnExactStepRateRow.holds Try.pinned (OpenSpec.ofChange fnExactStepRateWrong)

/-- 'laws.FnExactRunRate': WHATEVER THE INPUT: true; the input reads as it did. -/
def fnExactRunRateSpec : ChangeSpec := { name := "fnExactRunRate", fn := fun _ => fun
  | [d1, d2] => { results := [.lit (.bool true)], args := [d1, d2] }
  | _ => none }
def fnExactRunRateRow : OpenClaim := { program := "ytcjidlbpkijmnam", sum := "b74c7a5db87215f3aa6292f7f6cd1515b98d39c88822615be35dea6fbc8038e2", func := "loop.example/g00200/laws.FnExactRunRate", spec := "fnExactRunRate", apart := false }
def FnExactRunRateSaid : Prop := fnExactRunRateRow.holds Try.pinned (OpenSpec.ofChange fnExactRunRateSpec)

/-- ITS FALSE NEIGHBOUR: 'it returns false'. Refute it at one input. -/
def fnExactRunRateWrong : ChangeSpec := { name := "fnExactRunRate", fn := fun _ => fun
  | [d1, d2] => { results := [.lit (.bool false)], args := [d1, d2] }
  | _ => none }
def FnExactRunRateWrongFalsely : Prop := fnExactRunRateRow.holds Try.pinned (OpenSpec.ofChange fnExactRunRateWrong)

/- THE SECOND FORM. 'bulk': how many values and letters a reading holds, each counted each time it is reached (what is shared counts as often as it is met; a slice's spare places count too). A statement '..UptoSaid' is the law's where the arguments, and the package variables that the reading takes, are together of bulk at most 1048576: NARROWER than '..Said'. Prove '..Said' where nothing that the law and all that it calls make is longer than what came in: it says more and counts as full. Else prove '..UptoSaid'. A law counts once. -/
mutual
def uptoBulk {H : Type} : DataW H → Nat
  | .lit (.string bytes) => bytes.length + 1
  | .lit _ => 1
  | .nil => 1
  | .ptr d => uptoBulk d + 1
  | .slice elems spare => uptoBulkAll elems + uptoBulkAll spare + 1
  | .agg parts => uptoBulkAll parts + 1
  | .iface _ d => uptoBulk d + 1
  | .map entries => uptoBulkEntries entries + 1
  | .held _ => 1
def uptoBulkAll {H : Type} : List (DataW H) → Nat
  | [] => 0
  | d :: r => uptoBulk d + uptoBulkAll r
def uptoBulkEntries {H : Type} : List (Lit × DataW H) → Nat
  | [] => 0
  | x :: r => uptoBulkEntry x + uptoBulkEntries r
def uptoBulkEntry {H : Type} : Lit × DataW H → Nat
  | (.string bytes, d) => bytes.length + uptoBulk d + 1
  | (_, d) => uptoBulk d + 1
 end
def uptoSmall : (H : Type) → List (DataW H) → Bool := fun _ ds => decide (uptoBulkAll ds ≤ 1048576)
def OpenSpec.upto (s : _root_.Go.ChangeSpec) : _root_.Go.OpenSpec := { _root_.Go.OpenSpec.ofChange s with cond := some uptoSmall }

/-- 'laws.FnExactAddSat', WHERE WHAT IT READS IS OF BULK AT MOST 1048576: true; the input reads as it did. -/
def fnExactAddSatUptoRow : OpenClaim := { program := "ytcjidlbpkijmnam", sum := "b74c7a5db87215f3aa6292f7f6cd1515b98d39c88822615be35dea6fbc8038e2", func := "loop.example/g00200/laws.FnExactAddSat", spec := "fnExactAddSat", apart := false, narrowed := true }
def FnExactAddSatUptoSaid : Prop := fnExactAddSatUptoRow.holds Try.pinned (OpenSpec.upto fnExactAddSatSpec)

/-- 'laws.FnExactMulSat', WHERE WHAT IT READS IS OF BULK AT MOST 1048576: true; the input reads as it did. -/
def fnExactMulSatUptoRow : OpenClaim := { program := "ytcjidlbpkijmnam", sum := "b74c7a5db87215f3aa6292f7f6cd1515b98d39c88822615be35dea6fbc8038e2", func := "loop.example/g00200/laws.FnExactMulSat", spec := "fnExactMulSat", apart := false, narrowed := true }
def FnExactMulSatUptoSaid : Prop := fnExactMulSatUptoRow.holds Try.pinned (OpenSpec.upto fnExactMulSatSpec)

/-- 'laws.FnExactRateOk', WHERE WHAT IT READS IS OF BULK AT MOST 1048576: true; the input reads as it did. -/
def fnExactRateOkUptoRow : OpenClaim := { program := "ytcjidlbpkijmnam", sum := "b74c7a5db87215f3aa6292f7f6cd1515b98d39c88822615be35dea6fbc8038e2", func := "loop.example/g00200/laws.FnExactRateOk", spec := "fnExactRateOk", apart := false, narrowed := true }
def FnExactRateOkUptoSaid : Prop := fnExactRateOkUptoRow.holds Try.pinned (OpenSpec.upto fnExactRateOkSpec)

/-- 'laws.FnExactStepRate', WHERE WHAT IT READS IS OF BULK AT MOST 1048576: true; the input reads as it did. -/
def fnExactStepRateUptoRow : OpenClaim := { program := "ytcjidlbpkijmnam", sum := "b74c7a5db87215f3aa6292f7f6cd1515b98d39c88822615be35dea6fbc8038e2", func := "loop.example/g00200/laws.FnExactStepRate", spec := "fnExactStepRate", apart := false, narrowed := true }
def FnExactStepRateUptoSaid : Prop := fnExactStepRateUptoRow.holds Try.pinned (OpenSpec.upto fnExactStepRateSpec)

/-- 'laws.FnExactRunRate', WHERE WHAT IT READS IS OF BULK AT MOST 1048576: true; the input reads as it did. -/
def fnExactRunRateUptoRow : OpenClaim := { program := "ytcjidlbpkijmnam", sum := "b74c7a5db87215f3aa6292f7f6cd1515b98d39c88822615be35dea6fbc8038e2", func := "loop.example/g00200/laws.FnExactRunRate", spec := "fnExactRunRate", apart := false, narrowed := true }
def FnExactRunRateUptoSaid : Prop := fnExactRunRateUptoRow.holds Try.pinned (OpenSpec.upto fnExactRunRateSpec)

end Rows
end Go.Proofs.Ytcjidlbpkijmnam
