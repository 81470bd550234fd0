/-
  No cell of these rows narrows 'for every input' (looked for: loops, veiled, ifaces, maps, wideKeys, modest, calm, conditions, laid).
  DERIVED. THE GIVEN ROWS OF THIS SEAT. 7 by the template 'for every input the law returns true; each argument reads behind the call as it read before'; 0 by the template 'total and deterministic' (their statements: YtgpdkodnggpkeaaTotals.lean).
  GIVEN WITH THE SEED: the statements are not yours to turn. If you find one false, say at which input.
  Laid BY PROGRAM, IN A SANDBOX (cutbox-rows.mjs): the forced cells as the released guide's own fill.sh prints them over the translation 7341843376f8b1bf… (all of the seat's roots in one cut). By AI agents, Wed Nov 11 2026. No macro, syntax, notation, axiom, sorry.
-/
import Derived.Test.YtgpdkodnggpkeaaChecked
import GoSem.Claim
import GoSem.ClaimJoined
import GoSem.ClaimMapViews
import Derived.JoinedTies
import Derived.KernelRfl
namespace Go.Proofs.Ytgpdkodnggpkeaa
/- THE CELL 'sum', in the pinned program and in every row, IS THE sha256 OF THE DUMP (.gsa) THAT YtgpdkodnggpkeaaProg.lean LOADS. Nothing in Lean hashes anything: it is a label: what it is worth is what the hold of that sum in a sandbox is worth. -/
noncomputable def Try.pinned : Pinned := { name := "ytgpdkodnggpkeaa", sum := "7341843376f8b1bf0988762a88e369fa48c1448c97c1d93848485f83722febc3", checked := Try.checked }
namespace Rows
def none {H : Type} : Left H := { results := [], args := [] }

/-- 'laws.FnGuards': WHATEVER THE INPUT: true; the input reads as it did. -/
def fnGuardsSpec : ChangeSpec := { name := "fnGuards", fn := fun _ => fun
  | [d] => { results := [.lit (.bool true)], args := [d] }
  | _ => none }
def fnGuardsRow : OpenClaim := { program := "ytgpdkodnggpkeaa", sum := "7341843376f8b1bf0988762a88e369fa48c1448c97c1d93848485f83722febc3", func := "loop.example/g00200/laws.FnGuards", spec := "fnGuards", apart := false }
def FnGuardsSaid : Prop := fnGuardsRow.holds Try.pinned (OpenSpec.ofChange fnGuardsSpec)

/-- ITS FALSE NEIGHBOUR: 'it returns false'. Refute it at one input. -/
def fnGuardsWrong : ChangeSpec := { name := "fnGuards", fn := fun _ => fun
  | [d] => { results := [.lit (.bool false)], args := [d] }
  | _ => none }
def FnGuardsWrongFalsely : Prop := fnGuardsRow.holds Try.pinned (OpenSpec.ofChange fnGuardsWrong)

/-- 'laws.FnAlarms': WHATEVER THE INPUT: true; the input reads as it did. -/
def fnAlarmsSpec : ChangeSpec := { name := "fnAlarms", fn := fun _ => fun
  | [d] => { results := [.lit (.bool true)], args := [d] }
  | _ => none }
def fnAlarmsRow : OpenClaim := { program := "ytgpdkodnggpkeaa", sum := "7341843376f8b1bf0988762a88e369fa48c1448c97c1d93848485f83722febc3", func := "loop.example/g00200/laws.FnAlarms", spec := "fnAlarms", apart := false }
def FnAlarmsSaid : Prop := fnAlarmsRow.holds Try.pinned (OpenSpec.ofChange fnAlarmsSpec)

/-- ITS FALSE NEIGHBOUR: 'it returns false'. Refute it at one input. -/
def fnAlarmsWrong : ChangeSpec := { name := "fnAlarms", fn := fun _ => fun
  | [d] => { results := [.lit (.bool false)], args := [d] }
  | _ => none }
def FnAlarmsWrongFalsely : Prop := fnAlarmsRow.holds Try.pinned (OpenSpec.ofChange fnAlarmsWrong)

/-- 'laws.FnExactGuardOk': WHATEVER THE INPUT: true; the input reads as it did. -/
def fnExactGuardOkSpec : ChangeSpec := { name := "fnExactGuardOk", fn := fun _ => fun
  | [d] => { results := [.lit (.bool true)], args := [d] }
  | _ => none }
def fnExactGuardOkRow : OpenClaim := { program := "ytgpdkodnggpkeaa", sum := "7341843376f8b1bf0988762a88e369fa48c1448c97c1d93848485f83722febc3", func := "loop.example/g00200/laws.FnExactGuardOk", spec := "fnExactGuardOk", apart := false }
def FnExactGuardOkSaid : Prop := fnExactGuardOkRow.holds Try.pinned (OpenSpec.ofChange fnExactGuardOkSpec)

/-- ITS FALSE NEIGHBOUR: 'it returns false'. Refute it at one input. -/
def fnExactGuardOkWrong : ChangeSpec := { name := "fnExactGuardOk", fn := fun _ => fun
  | [d] => { results := [.lit (.bool false)], args := [d] }
  | _ => none }
def FnExactGuardOkWrongFalsely : Prop := fnExactGuardOkRow.holds Try.pinned (OpenSpec.ofChange fnExactGuardOkWrong)

/-- 'laws.FnExactRoomOf': WHATEVER THE INPUT: true; the input reads as it did. -/
def fnExactRoomOfSpec : ChangeSpec := { name := "fnExactRoomOf", fn := fun _ => fun
  | [d] => { results := [.lit (.bool true)], args := [d] }
  | _ => none }
def fnExactRoomOfRow : OpenClaim := { program := "ytgpdkodnggpkeaa", sum := "7341843376f8b1bf0988762a88e369fa48c1448c97c1d93848485f83722febc3", func := "loop.example/g00200/laws.FnExactRoomOf", spec := "fnExactRoomOf", apart := false }
def FnExactRoomOfSaid : Prop := fnExactRoomOfRow.holds Try.pinned (OpenSpec.ofChange fnExactRoomOfSpec)

/-- ITS FALSE NEIGHBOUR: 'it returns false'. Refute it at one input. -/
def fnExactRoomOfWrong : ChangeSpec := { name := "fnExactRoomOf", fn := fun _ => fun
  | [d] => { results := [.lit (.bool false)], args := [d] }
  | _ => none }
def FnExactRoomOfWrongFalsely : Prop := fnExactRoomOfRow.holds Try.pinned (OpenSpec.ofChange fnExactRoomOfWrong)

/-- 'laws.FnExactFeel': WHATEVER THE INPUT: true; the input reads as it did. -/
def fnExactFeelSpec : ChangeSpec := { name := "fnExactFeel", fn := fun _ => fun
  | [d1, d2, d3] => { results := [.lit (.bool true)], args := [d1, d2, d3] }
  | _ => none }
def fnExactFeelRow : OpenClaim := { program := "ytgpdkodnggpkeaa", sum := "7341843376f8b1bf0988762a88e369fa48c1448c97c1d93848485f83722febc3", func := "loop.example/g00200/laws.FnExactFeel", spec := "fnExactFeel", apart := false }
def FnExactFeelSaid : Prop := fnExactFeelRow.holds Try.pinned (OpenSpec.ofChange fnExactFeelSpec)

/-- ITS FALSE NEIGHBOUR: 'it returns false'. Refute it at one input. -/
def fnExactFeelWrong : ChangeSpec := { name := "fnExactFeel", fn := fun _ => fun
  | [d1, d2, d3] => { results := [.lit (.bool false)], args := [d1, d2, d3] }
  | _ => none }
def FnExactFeelWrongFalsely : Prop := fnExactFeelRow.holds Try.pinned (OpenSpec.ofChange fnExactFeelWrong)

/-- 'laws.FnExactAllow': WHATEVER THE INPUT: true; the input reads as it did. -/
def fnExactAllowSpec : ChangeSpec := { name := "fnExactAllow", fn := fun _ => fun
  | [d1, d2] => { results := [.lit (.bool true)], args := [d1, d2] }
  | _ => none }
def fnExactAllowRow : OpenClaim := { program := "ytgpdkodnggpkeaa", sum := "7341843376f8b1bf0988762a88e369fa48c1448c97c1d93848485f83722febc3", func := "loop.example/g00200/laws.FnExactAllow", spec := "fnExactAllow", apart := false }
def FnExactAllowSaid : Prop := fnExactAllowRow.holds Try.pinned (OpenSpec.ofChange fnExactAllowSpec)

/-- ITS FALSE NEIGHBOUR: 'it returns false'. Refute it at one input. -/
def fnExactAllowWrong : ChangeSpec := { name := "fnExactAllow", fn := fun _ => fun
  | [d1, d2] => { results := [.lit (.bool false)], args := [d1, d2] }
  | _ => none }
def FnExactAllowWrongFalsely : Prop := fnExactAllowRow.holds Try.pinned (OpenSpec.ofChange fnExactAllowWrong)

/-- 'laws.FnExactPass': WHATEVER THE INPUT: true; the input reads as it did. -/
def fnExactPassSpec : ChangeSpec := { name := "fnExactPass", fn := fun _ => fun
  | [d1, d2] => { results := [.lit (.bool true)], args := [d1, d2] }
  | _ => none }
def fnExactPassRow : OpenClaim := { program := "ytgpdkodnggpkeaa", sum := "7341843376f8b1bf0988762a88e369fa48c1448c97c1d93848485f83722febc3", func := "loop.example/g00200/laws.FnExactPass", spec := "fnExactPass", apart := false }
def FnExactPassSaid : Prop := fnExactPassRow.holds Try.pinned (OpenSpec.ofChange fnExactPassSpec)

/-- ITS FALSE NEIGHBOUR: 'it returns false'. Refute it at one input. -/
def fnExactPassWrong : ChangeSpec := { name := "fnExactPass", fn := fun _ => fun
  | [d1, d2] => { results := [.lit (.bool false)], args := [d1, d2] }
  | _ => none }
def FnExactPassWrongFalsely : Prop := fnExactPassRow.holds Try.pinned (OpenSpec.ofChange fnExactPassWrong)

/- THE SECOND FORM. 'bulk': how many values and letters a reading holds, each counted each time it is reached (what is shared counts as often as it is met; a slice's spare places count too). A statement '..UptoSaid' is the law's where the arguments, and the package variables that the reading takes, are together of bulk at most 1048576: NARROWER than '..Said'. Prove '..Said' where nothing that the law and all that it calls make is longer than what came in: it says more and counts as full. Else prove '..UptoSaid'. A law counts once. -/
mutual
def uptoBulk {H : Type} : DataW H → Nat
  | .lit (.string bytes) => bytes.length + 1
  | .lit _ => 1
  | .nil => 1
  | .ptr d => uptoBulk d + 1
  | .slice elems spare => uptoBulkAll elems + uptoBulkAll spare + 1
  | .agg parts => uptoBulkAll parts + 1
  | .iface _ d => uptoBulk d + 1
  | .map entries => uptoBulkEntries entries + 1
  | .held _ => 1
def uptoBulkAll {H : Type} : List (DataW H) → Nat
  | [] => 0
  | d :: r => uptoBulk d + uptoBulkAll r
def uptoBulkEntries {H : Type} : List (Lit × DataW H) → Nat
  | [] => 0
  | x :: r => uptoBulkEntry x + uptoBulkEntries r
def uptoBulkEntry {H : Type} : Lit × DataW H → Nat
  | (.string bytes, d) => bytes.length + uptoBulk d + 1
  | (_, d) => uptoBulk d + 1
 end
def uptoSmall : (H : Type) → List (DataW H) → Bool := fun _ ds => decide (uptoBulkAll ds ≤ 1048576)
def OpenSpec.upto (s : _root_.Go.ChangeSpec) : _root_.Go.OpenSpec := { _root_.Go.OpenSpec.ofChange s with cond := some uptoSmall }

/-- 'laws.FnGuards', WHERE WHAT IT READS IS OF BULK AT MOST 1048576: true; the input reads as it did. -/
def fnGuardsUptoRow : OpenClaim := { program := "ytgpdkodnggpkeaa", sum := "7341843376f8b1bf0988762a88e369fa48c1448c97c1d93848485f83722febc3", func := "loop.example/g00200/laws.FnGuards", spec := "fnGuards", apart := false, narrowed := true }
def FnGuardsUptoSaid : Prop := fnGuardsUptoRow.holds Try.pinned (OpenSpec.upto fnGuardsSpec)

/-- 'laws.FnAlarms', WHERE WHAT IT READS IS OF BULK AT MOST 1048576: true; the input reads as it did. -/
def fnAlarmsUptoRow : OpenClaim := { program := "ytgpdkodnggpkeaa", sum := "7341843376f8b1bf0988762a88e369fa48c1448c97c1d93848485f83722febc3", func := "loop.example/g00200/laws.FnAlarms", spec := "fnAlarms", apart := false, narrowed := true }
def FnAlarmsUptoSaid : Prop := fnAlarmsUptoRow.holds Try.pinned (OpenSpec.upto fnAlarmsSpec)

/-- 'laws.FnExactGuardOk', WHERE WHAT IT READS IS OF BULK AT MOST 1048576: true; the input reads as it did. -/
def fnExactGuardOkUptoRow : OpenClaim := { program := "ytgpdkodnggpkeaa", sum := "7341843376f8b1bf0988762a88e369fa48c1448c97c1d93848485f83722febc3", func := "loop.example/g00200/laws.FnExactGuardOk", spec := "fnExactGuardOk", apart := false, narrowed := true }
def FnExactGuardOkUptoSaid : Prop := fnExactGuardOkUptoRow.holds Try.pinned (OpenSpec.upto fnExactGuardOkSpec)

/-- 'laws.FnExactRoomOf', WHERE WHAT IT READS IS OF BULK AT MOST 1048576: true; the input reads as it did. -/
def fnExactRoomOfUptoRow : OpenClaim := { program := "ytgpdkodnggpkeaa", sum := "7341843376f8b1bf0988762a88e369fa48c1448c97c1d93848485f83722febc3", func := "loop.example/g00200/laws.FnExactRoomOf", spec := "fnExactRoomOf", apart := false, narrowed := true }
def FnExactRoomOfUptoSaid : Prop := fnExactRoomOfUptoRow.holds Try.pinned (OpenSpec.upto fnExactRoomOfSpec)

/-- 'laws.FnExactFeel', WHERE WHAT IT READS IS OF BULK AT MOST 1048576: true; the input reads as it did. -/
def fnExactFeelUptoRow : OpenClaim := { program := "ytgpdkodnggpkeaa", sum := "7341843376f8b1bf0988762a88e369fa48c1448c97c1d93848485f83722febc3", func := "loop.example/g00200/laws.FnExactFeel", spec := "fnExactFeel", apart := false, narrowed := true }
def FnExactFeelUptoSaid : Prop := fnExactFeelUptoRow.holds Try.pinned (OpenSpec.upto fnExactFeelSpec)

/-- 'laws.FnExactAllow', WHERE WHAT IT READS IS OF BULK AT MOST 1048576: true; the input reads as it did. -/
def fnExactAllowUptoRow : OpenClaim := { program := "ytgpdkodnggpkeaa", sum := "7341843376f8b1bf0988762a88e369fa48c1448c97c1d93848485f83722febc3", func := "loop.example/g00200/laws.FnExactAllow", spec := "fnExactAllow", apart := false, narrowed := true }
def FnExactAllowUptoSaid : Prop := fnExactAllowUptoRow.holds Try.pinned (OpenSpec.upto fnExactAllowSpec)

/-- 'laws.FnExactPass', WHERE WHAT IT READS IS OF BULK AT MOST 1048576: true; the input reads as it did. -/
def fnExactPassUptoRow : OpenClaim := { program := "ytgpdkodnggpkeaa", sum := "7341843376f8b1bf0988762a88e369fa48c1448c97c1d93848485f83722febc3", func := "loop.example/g00200/laws.FnExactPass", spec := "fnExactPass", apart := false, narrowed := true }
def FnExactPassUptoSaid : Prop := fnExactPassUptoRow.holds Try.pinned (OpenSpec.upto fnExactPassSpec)

end Rows
end Go.Proofs.Ytgpdkodnggpkeaa
