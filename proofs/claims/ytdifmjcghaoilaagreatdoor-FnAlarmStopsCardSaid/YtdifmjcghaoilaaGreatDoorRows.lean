/-
  NARROWER THAN 'FOR EVERY INPUT', by the rows' own cells (each row's printed sentence says how): FnLimits: laid · FnAlarmStops: laid.
  DERIVED. THE GIVEN ROWS OF THIS SEAT. 2 by the template 'for every input the law returns true; each argument reads behind the call as it read before'; 0 by the template 'total and deterministic' (their statements: YtdifmjcghaoilaaGreatDoorTotals.lean).
  GIVEN WITH THE SEED: the statements are not yours to turn. If you find one false, say at which input.
  Laid BY PROGRAM, IN A SANDBOX (cutbox-rows.mjs): the forced cells as the released guide's own fill.sh prints them over the translation 899a28a29df917b4… (all of the seat's roots in one cut). By AI agents, Wed Nov 11 2026. No macro, syntax, notation, axiom, sorry.
-/
import Derived.Test.YtdifmjcghaoilaaGreatDoorChecked
import GoSem.Claim
import GoSem.ClaimJoined
import GoSem.ClaimMapViews
import Derived.JoinedTies
import Derived.KernelRfl
namespace Go.Proofs.YtdifmjcghaoilaaGreatDoor
/- THE CELL 'sum', in the pinned program and in every row, IS THE sha256 OF THE DUMP (.gsa) THAT YtdifmjcghaoilaaGreatDoorProg.lean LOADS. Nothing in Lean hashes anything: it is a label: what it is worth is what the hold of that sum in a sandbox is worth. -/
noncomputable def Tryz.pinned : Pinned := { name := "ytdifmjcghaoilaagreatdoor", sum := "899a28a29df917b4183821623f667d531865979d6b9b8ba26f74af0867e14897", checked := Tryz.checked }
namespace Rows
def none {H : Type} : Left H := { results := [], args := [] }

/- WHAT THE LISTED PACKAGE-LEVEL VARIABLES READ AS WHEN THE CALL BEGINS. Each datum BY PROGRAM (the guide's laid-datum.mjs) off the statement by which the dump's own 'gosem.cut.vars' lays the variable. In a bare row this is a premise. The card (YtdifmjcghaoilaaGreatDoorCards.lean) ties it to the program's text. -/
def laid_loop_example_g00200_impl_halfSums {H : Type} : DataW H := .agg [.lit (.int .u32 0), .lit (.int .u32 1166650509), .lit (.int .u32 2333301018), .lit (.int .u32 3466261911), .lit (.int .u32 3189058079), .lit (.int .u32 4221339282), .lit (.int .u32 889615109), .lit (.int .u32 1888477064), .lit (.int .u32 3558460437), .lit (.int .u32 2442158232), .lit (.int .u32 1594529039), .lit (.int .u32 444807554), .lit (.int .u32 1779230218), .lit (.int .u32 797264519), .lit (.int .u32 3776954128), .lit (.int .u32 2761298845)]

/-- 'laws.FnLimits': WHATEVER THE INPUT: true; the input reads as it did. -/
def fnLimitsSpec : ChangeSpec := { name := "fnLimits", vars := ["loop.example/g00200/impl.halfSums"], fn := fun _ => fun
  | [d, g1] => { results := [.lit (.bool true)], args := [d], vars := [g1] }
  | _ => none }
def fnLimitsRow : OpenClaim := { program := "ytdifmjcghaoilaagreatdoor", sum := "899a28a29df917b4183821623f667d531865979d6b9b8ba26f74af0867e14897", func := "loop.example/g00200/laws.FnLimits", spec := "fnLimits", unfollowed := true, recurses := true, named := ["loop.example/g00200/impl.halfSums"], apart := false, laid := [("loop.example/g00200/impl.halfSums", laid_loop_example_g00200_impl_halfSums)] }
def FnLimitsSaid : Prop := fnLimitsRow.holds Tryz.pinned (OpenSpec.ofChange fnLimitsSpec)

/-- ITS FALSE NEIGHBOUR: 'it returns false'. Refute it at one input. -/
def fnLimitsWrong : ChangeSpec := { name := "fnLimits", vars := ["loop.example/g00200/impl.halfSums"], fn := fun _ => fun
  | [d, g1] => { results := [.lit (.bool false)], args := [d], vars := [g1] }
  | _ => none }
def FnLimitsWrongFalsely : Prop := fnLimitsRow.holds Tryz.pinned (OpenSpec.ofChange fnLimitsWrong)

/-- 'laws.FnAlarmStops': WHATEVER THE INPUT: true; the input reads as it did. -/
def fnAlarmStopsSpec : ChangeSpec := { name := "fnAlarmStops", vars := ["loop.example/g00200/impl.halfSums"], fn := fun _ => fun
  | [d, g1] => { results := [.lit (.bool true)], args := [d], vars := [g1] }
  | _ => none }
def fnAlarmStopsRow : OpenClaim := { program := "ytdifmjcghaoilaagreatdoor", sum := "899a28a29df917b4183821623f667d531865979d6b9b8ba26f74af0867e14897", func := "loop.example/g00200/laws.FnAlarmStops", spec := "fnAlarmStops", unfollowed := true, recurses := true, named := ["loop.example/g00200/impl.halfSums"], apart := false, laid := [("loop.example/g00200/impl.halfSums", laid_loop_example_g00200_impl_halfSums)] }
def FnAlarmStopsSaid : Prop := fnAlarmStopsRow.holds Tryz.pinned (OpenSpec.ofChange fnAlarmStopsSpec)

/-- ITS FALSE NEIGHBOUR: 'it returns false'. Refute it at one input. -/
def fnAlarmStopsWrong : ChangeSpec := { name := "fnAlarmStops", vars := ["loop.example/g00200/impl.halfSums"], fn := fun _ => fun
  | [d, g1] => { results := [.lit (.bool false)], args := [d], vars := [g1] }
  | _ => none }
def FnAlarmStopsWrongFalsely : Prop := fnAlarmStopsRow.holds Tryz.pinned (OpenSpec.ofChange fnAlarmStopsWrong)

/- THE SECOND FORM. 'bulk': how many values and letters a reading holds, each counted each time it is reached (what is shared counts as often as it is met; a slice's spare places count too). A statement '..UptoSaid' is the law's where the arguments, and the package variables that the reading takes, are together of bulk at most 1048576: NARROWER than '..Said'. Prove '..Said' where nothing that the law and all that it calls make is longer than what came in: it says more and counts as full. Else prove '..UptoSaid'. A law counts once. -/
mutual
def uptoBulk {H : Type} : DataW H → Nat
  | .lit (.string bytes) => bytes.length + 1
  | .lit _ => 1
  | .nil => 1
  | .ptr d => uptoBulk d + 1
  | .slice elems spare => uptoBulkAll elems + uptoBulkAll spare + 1
  | .agg parts => uptoBulkAll parts + 1
  | .iface _ d => uptoBulk d + 1
  | .map entries => uptoBulkEntries entries + 1
  | .held _ => 1
def uptoBulkAll {H : Type} : List (DataW H) → Nat
  | [] => 0
  | d :: r => uptoBulk d + uptoBulkAll r
def uptoBulkEntries {H : Type} : List (Lit × DataW H) → Nat
  | [] => 0
  | x :: r => uptoBulkEntry x + uptoBulkEntries r
def uptoBulkEntry {H : Type} : Lit × DataW H → Nat
  | (.string bytes, d) => bytes.length + uptoBulk d + 1
  | (_, d) => uptoBulk d + 1
 end
def uptoSmall : (H : Type) → List (DataW H) → Bool := fun _ ds => decide (uptoBulkAll ds ≤ 1048576)
def OpenSpec.upto (s : _root_.Go.ChangeSpec) : _root_.Go.OpenSpec := { _root_.Go.OpenSpec.ofChange s with cond := some uptoSmall }

/-- 'laws.FnLimits', WHERE WHAT IT READS IS OF BULK AT MOST 1048576: true; the input reads as it did. -/
def fnLimitsUptoRow : OpenClaim := { program := "ytdifmjcghaoilaagreatdoor", sum := "899a28a29df917b4183821623f667d531865979d6b9b8ba26f74af0867e14897", func := "loop.example/g00200/laws.FnLimits", spec := "fnLimits", unfollowed := true, recurses := true, named := ["loop.example/g00200/impl.halfSums"], apart := false, laid := [("loop.example/g00200/impl.halfSums", laid_loop_example_g00200_impl_halfSums)], narrowed := true }
def FnLimitsUptoSaid : Prop := fnLimitsUptoRow.holds Tryz.pinned (OpenSpec.upto fnLimitsSpec)

/-- 'laws.FnAlarmStops', WHERE WHAT IT READS IS OF BULK AT MOST 1048576: true; the input reads as it did. -/
def fnAlarmStopsUptoRow : OpenClaim := { program := "ytdifmjcghaoilaagreatdoor", sum := "899a28a29df917b4183821623f667d531865979d6b9b8ba26f74af0867e14897", func := "loop.example/g00200/laws.FnAlarmStops", spec := "fnAlarmStops", unfollowed := true, recurses := true, named := ["loop.example/g00200/impl.halfSums"], apart := false, laid := [("loop.example/g00200/impl.halfSums", laid_loop_example_g00200_impl_halfSums)], narrowed := true }
def FnAlarmStopsUptoSaid : Prop := fnAlarmStopsUptoRow.holds Tryz.pinned (OpenSpec.upto fnAlarmStopsSpec)

end Rows
end Go.Proofs.YtdifmjcghaoilaaGreatDoor
