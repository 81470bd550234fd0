/-
  NARROWER THAN 'FOR EVERY INPUT', by the rows' own cells (each row's printed sentence says how): FnSenses: laid · FnExactSenseNames: laid · FnExactReadSense: laid.
  DERIVED. THE GIVEN ROWS OF THIS SEAT. 3 by the template 'for every input the law returns true; each argument reads behind the call as it read before'; 0 by the template 'total and deterministic' (their statements: YthjfbookeldpaaaDoorTotals.lean).
  GIVEN WITH THE SEED: the statements are not yours to turn. If you find one false, say at which input.
  Laid BY PROGRAM, IN A SANDBOX (cutbox-rows.mjs): the forced cells as the released guide's own fill.sh prints them over the translation 6ccf1c28515b6791… (all of the seat's roots in one cut). By AI agents, Wed Nov 11 2026. No macro, syntax, notation, axiom, sorry.
-/
import Derived.Test.YthjfbookeldpaaaDoorChecked
import GoSem.Claim
import GoSem.ClaimJoined
import GoSem.ClaimMapViews
import Derived.JoinedTies
import Derived.KernelRfl
namespace Go.Proofs.YthjfbookeldpaaaDoor
/- THE CELL 'sum', in the pinned program and in every row, IS THE sha256 OF THE DUMP (.gsa) THAT YthjfbookeldpaaaDoorProg.lean LOADS. Nothing in Lean hashes anything: it is a label: what it is worth is what the hold of that sum in a sandbox is worth. -/
noncomputable def Tryd.pinned : Pinned := { name := "ythjfbookeldpaaadoor", sum := "6ccf1c28515b679142b889ae4273ee8cd8cac41592646a3ec252c6b6d52a002d", checked := Tryd.checked }
namespace Rows
def none {H : Type} : Left H := { results := [], args := [] }

/- WHAT THE LISTED PACKAGE-LEVEL VARIABLES READ AS WHEN THE CALL BEGINS. Each datum BY PROGRAM (the guide's laid-datum.mjs) off the statement by which the dump's own 'gosem.cut.vars' lays the variable. In a bare row this is a premise. The card (YthjfbookeldpaaaDoorCards.lean) ties it to the program's text. -/
def laid_loop_example_g00200_impl_senseNames {H : Type} : DataW H := .agg [.lit (.string [98, 108, 111, 99, 107]), .lit (.string [97, 105, 114]), .lit (.string [100, 111, 111, 114]), .lit (.string [112, 111, 119, 101, 114])]

/-- 'laws.FnSenses': WHATEVER THE INPUT: true; the input reads as it did. -/
def fnSensesSpec : ChangeSpec := { name := "fnSenses", vars := ["loop.example/g00200/impl.senseNames"], fn := fun _ => fun
  | [d, g1] => { results := [.lit (.bool true)], args := [d], vars := [g1] }
  | _ => none }
def fnSensesRow : OpenClaim := { program := "ythjfbookeldpaaadoor", sum := "6ccf1c28515b679142b889ae4273ee8cd8cac41592646a3ec252c6b6d52a002d", func := "loop.example/g00200/laws.FnSenses", spec := "fnSenses", inPlace := ["internal/abi.NoEscape", "internal/bytealg.MakeNoZero"], named := ["loop.example/g00200/impl.senseNames"], apart := false, laid := [("loop.example/g00200/impl.senseNames", laid_loop_example_g00200_impl_senseNames)] }
def FnSensesSaid : Prop := fnSensesRow.holds Tryd.pinned (OpenSpec.ofChange fnSensesSpec)

/-- ITS FALSE NEIGHBOUR: 'it returns false'. Refute it at one input. -/
def fnSensesWrong : ChangeSpec := { name := "fnSenses", vars := ["loop.example/g00200/impl.senseNames"], fn := fun _ => fun
  | [d, g1] => { results := [.lit (.bool false)], args := [d], vars := [g1] }
  | _ => none }
def FnSensesWrongFalsely : Prop := fnSensesRow.holds Tryd.pinned (OpenSpec.ofChange fnSensesWrong)

/-- 'laws.FnExactSenseNames': WHATEVER THE INPUT: true; the input reads as it did. -/
def fnExactSenseNamesSpec : ChangeSpec := { name := "fnExactSenseNames", vars := ["loop.example/g00200/impl.senseNames"], fn := fun _ => fun
  | [d, g1] => { results := [.lit (.bool true)], args := [d], vars := [g1] }
  | _ => none }
def fnExactSenseNamesRow : OpenClaim := { program := "ythjfbookeldpaaadoor", sum := "6ccf1c28515b679142b889ae4273ee8cd8cac41592646a3ec252c6b6d52a002d", func := "loop.example/g00200/laws.FnExactSenseNames", spec := "fnExactSenseNames", inPlace := ["internal/abi.NoEscape", "internal/bytealg.MakeNoZero"], named := ["loop.example/g00200/impl.senseNames"], apart := false, laid := [("loop.example/g00200/impl.senseNames", laid_loop_example_g00200_impl_senseNames)] }
def FnExactSenseNamesSaid : Prop := fnExactSenseNamesRow.holds Tryd.pinned (OpenSpec.ofChange fnExactSenseNamesSpec)

/-- ITS FALSE NEIGHBOUR: 'it returns false'. Refute it at one input. -/
def fnExactSenseNamesWrong : ChangeSpec := { name := "fnExactSenseNames", vars := ["loop.example/g00200/impl.senseNames"], fn := fun _ => fun
  | [d, g1] => { results := [.lit (.bool false)], args := [d], vars := [g1] }
  | _ => none }
def FnExactSenseNamesWrongFalsely : Prop := fnExactSenseNamesRow.holds Tryd.pinned (OpenSpec.ofChange fnExactSenseNamesWrong)

/-- 'laws.FnExactReadSense': WHATEVER THE INPUT: true; the input reads as it did. -/
def fnExactReadSenseSpec : ChangeSpec := { name := "fnExactReadSense", vars := ["loop.example/g00200/impl.senseNames"], fn := fun _ => fun
  | [d, g1] => { results := [.lit (.bool true)], args := [d], vars := [g1] }
  | _ => none }
def fnExactReadSenseRow : OpenClaim := { program := "ythjfbookeldpaaadoor", sum := "6ccf1c28515b679142b889ae4273ee8cd8cac41592646a3ec252c6b6d52a002d", func := "loop.example/g00200/laws.FnExactReadSense", spec := "fnExactReadSense", inPlace := ["internal/abi.NoEscape", "internal/bytealg.MakeNoZero"], named := ["loop.example/g00200/impl.senseNames"], apart := false, laid := [("loop.example/g00200/impl.senseNames", laid_loop_example_g00200_impl_senseNames)] }
def FnExactReadSenseSaid : Prop := fnExactReadSenseRow.holds Tryd.pinned (OpenSpec.ofChange fnExactReadSenseSpec)

/-- ITS FALSE NEIGHBOUR: 'it returns false'. Refute it at one input. -/
def fnExactReadSenseWrong : ChangeSpec := { name := "fnExactReadSense", vars := ["loop.example/g00200/impl.senseNames"], fn := fun _ => fun
  | [d, g1] => { results := [.lit (.bool false)], args := [d], vars := [g1] }
  | _ => none }
def FnExactReadSenseWrongFalsely : Prop := fnExactReadSenseRow.holds Tryd.pinned (OpenSpec.ofChange fnExactReadSenseWrong)

/- THE SECOND FORM. 'bulk': how many values and letters a reading holds, each counted each time it is reached (what is shared counts as often as it is met; a slice's spare places count too). A statement '..UptoSaid' is the law's where the arguments, and the package variables that the reading takes, are together of bulk at most 1048576: NARROWER than '..Said'. Prove '..Said' where nothing that the law and all that it calls make is longer than what came in: it says more and counts as full. Else prove '..UptoSaid'. A law counts once. -/
mutual
def uptoBulk {H : Type} : DataW H → Nat
  | .lit (.string bytes) => bytes.length + 1
  | .lit _ => 1
  | .nil => 1
  | .ptr d => uptoBulk d + 1
  | .slice elems spare => uptoBulkAll elems + uptoBulkAll spare + 1
  | .agg parts => uptoBulkAll parts + 1
  | .iface _ d => uptoBulk d + 1
  | .map entries => uptoBulkEntries entries + 1
  | .held _ => 1
def uptoBulkAll {H : Type} : List (DataW H) → Nat
  | [] => 0
  | d :: r => uptoBulk d + uptoBulkAll r
def uptoBulkEntries {H : Type} : List (Lit × DataW H) → Nat
  | [] => 0
  | x :: r => uptoBulkEntry x + uptoBulkEntries r
def uptoBulkEntry {H : Type} : Lit × DataW H → Nat
  | (.string bytes, d) => bytes.length + uptoBulk d + 1
  | (_, d) => uptoBulk d + 1
 end
def uptoSmall : (H : Type) → List (DataW H) → Bool := fun _ ds => decide (uptoBulkAll ds ≤ 1048576)
def OpenSpec.upto (s : _root_.Go.ChangeSpec) : _root_.Go.OpenSpec := { _root_.Go.OpenSpec.ofChange s with cond := some uptoSmall }

/-- 'laws.FnSenses', WHERE WHAT IT READS IS OF BULK AT MOST 1048576: true; the input reads as it did. -/
def fnSensesUptoRow : OpenClaim := { program := "ythjfbookeldpaaadoor", sum := "6ccf1c28515b679142b889ae4273ee8cd8cac41592646a3ec252c6b6d52a002d", func := "loop.example/g00200/laws.FnSenses", spec := "fnSenses", inPlace := ["internal/abi.NoEscape", "internal/bytealg.MakeNoZero"], named := ["loop.example/g00200/impl.senseNames"], apart := false, laid := [("loop.example/g00200/impl.senseNames", laid_loop_example_g00200_impl_senseNames)], narrowed := true }
def FnSensesUptoSaid : Prop := fnSensesUptoRow.holds Tryd.pinned (OpenSpec.upto fnSensesSpec)

/-- 'laws.FnExactSenseNames', WHERE WHAT IT READS IS OF BULK AT MOST 1048576: true; the input reads as it did. -/
def fnExactSenseNamesUptoRow : OpenClaim := { program := "ythjfbookeldpaaadoor", sum := "6ccf1c28515b679142b889ae4273ee8cd8cac41592646a3ec252c6b6d52a002d", func := "loop.example/g00200/laws.FnExactSenseNames", spec := "fnExactSenseNames", inPlace := ["internal/abi.NoEscape", "internal/bytealg.MakeNoZero"], named := ["loop.example/g00200/impl.senseNames"], apart := false, laid := [("loop.example/g00200/impl.senseNames", laid_loop_example_g00200_impl_senseNames)], narrowed := true }
def FnExactSenseNamesUptoSaid : Prop := fnExactSenseNamesUptoRow.holds Tryd.pinned (OpenSpec.upto fnExactSenseNamesSpec)

/-- 'laws.FnExactReadSense', WHERE WHAT IT READS IS OF BULK AT MOST 1048576: true; the input reads as it did. -/
def fnExactReadSenseUptoRow : OpenClaim := { program := "ythjfbookeldpaaadoor", sum := "6ccf1c28515b679142b889ae4273ee8cd8cac41592646a3ec252c6b6d52a002d", func := "loop.example/g00200/laws.FnExactReadSense", spec := "fnExactReadSense", inPlace := ["internal/abi.NoEscape", "internal/bytealg.MakeNoZero"], named := ["loop.example/g00200/impl.senseNames"], apart := false, laid := [("loop.example/g00200/impl.senseNames", laid_loop_example_g00200_impl_senseNames)], narrowed := true }
def FnExactReadSenseUptoSaid : Prop := fnExactReadSenseUptoRow.holds Tryd.pinned (OpenSpec.upto fnExactReadSenseSpec)

end Rows
end Go.Proofs.YthjfbookeldpaaaDoor
