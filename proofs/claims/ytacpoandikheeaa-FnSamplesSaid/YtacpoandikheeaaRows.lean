/-
  No cell of these rows narrows 'for every input' (looked for: loops, veiled, ifaces, maps, wideKeys, modest, calm, conditions, laid).
  DERIVED. THE GIVEN ROWS OF THIS SEAT. 5 by the template 'for every input the law returns true; each argument reads behind the call as it read before'; 0 by the template 'total and deterministic' (their statements: YtacpoandikheeaaTotals.lean).
  GIVEN WITH THE SEED: the statements are not yours to turn. If you find one false, say at which input.
  Laid BY PROGRAM, IN A SANDBOX (cutbox-rows.mjs): the forced cells as the released guide's own fill.sh prints them over the translation 612367e944a30a5b… (all of the seat's roots in one cut). By AI agents, Wed Nov 11 2026. No macro, syntax, notation, axiom, sorry.
-/
import Derived.Test.YtacpoandikheeaaChecked
import GoSem.Claim
import GoSem.ClaimJoined
import GoSem.ClaimMapViews
import Derived.JoinedTies
import Derived.KernelRfl
namespace Go.Proofs.Ytacpoandikheeaa
/- THE CELL 'sum', in the pinned program and in every row, IS THE sha256 OF THE DUMP (.gsa) THAT YtacpoandikheeaaProg.lean LOADS. Nothing in Lean hashes anything: it is a label: what it is worth is what the hold of that sum in a sandbox is worth. -/
noncomputable def Try.pinned : Pinned := { name := "ytacpoandikheeaa", sum := "612367e944a30a5b4ef2109c62b5c352d0e7f3007ed43715a76042b0a12ba28c", checked := Try.checked }
namespace Rows
def none {H : Type} : Left H := { results := [], args := [] }

/-- 'laws.FnExactSendPort': WHATEVER THE INPUT: true; the input reads as it did. -/
def fnExactSendPortSpec : ChangeSpec := { name := "fnExactSendPort", fn := fun _ => fun
  | [d1, d2, d3, d4] => { results := [.lit (.bool true)], args := [d1, d2, d3, d4] }
  | _ => none }
def fnExactSendPortRow : OpenClaim := { program := "ytacpoandikheeaa", sum := "612367e944a30a5b4ef2109c62b5c352d0e7f3007ed43715a76042b0a12ba28c", func := "loop.example/g00200/laws.FnExactSendPort", spec := "fnExactSendPort", unfollowed := true, recurses := true, apart := false }
def FnExactSendPortSaid : Prop := fnExactSendPortRow.holds Try.pinned (OpenSpec.ofChange fnExactSendPortSpec)

/-- ITS FALSE NEIGHBOUR: 'it returns false'. Refute it at one input. -/
def fnExactSendPortWrong : ChangeSpec := { name := "fnExactSendPort", fn := fun _ => fun
  | [d1, d2, d3, d4] => { results := [.lit (.bool false)], args := [d1, d2, d3, d4] }
  | _ => none }
def FnExactSendPortWrongFalsely : Prop := fnExactSendPortRow.holds Try.pinned (OpenSpec.ofChange fnExactSendPortWrong)

/-- 'laws.FnExactTakePort': WHATEVER THE INPUT: true; the input reads as it did. -/
def fnExactTakePortSpec : ChangeSpec := { name := "fnExactTakePort", fn := fun _ => fun
  | [d1, d2, d3] => { results := [.lit (.bool true)], args := [d1, d2, d3] }
  | _ => none }
def fnExactTakePortRow : OpenClaim := { program := "ytacpoandikheeaa", sum := "612367e944a30a5b4ef2109c62b5c352d0e7f3007ed43715a76042b0a12ba28c", func := "loop.example/g00200/laws.FnExactTakePort", spec := "fnExactTakePort", unfollowed := true, recurses := true, apart := false }
def FnExactTakePortSaid : Prop := fnExactTakePortRow.holds Try.pinned (OpenSpec.ofChange fnExactTakePortSpec)

/-- ITS FALSE NEIGHBOUR: 'it returns false'. Refute it at one input. -/
def fnExactTakePortWrong : ChangeSpec := { name := "fnExactTakePort", fn := fun _ => fun
  | [d1, d2, d3] => { results := [.lit (.bool false)], args := [d1, d2, d3] }
  | _ => none }
def FnExactTakePortWrongFalsely : Prop := fnExactTakePortRow.holds Try.pinned (OpenSpec.ofChange fnExactTakePortWrong)

/-- 'laws.FnQueues': WHATEVER THE INPUT: true; the input reads as it did. -/
def fnQueuesSpec : ChangeSpec := { name := "fnQueues", fn := fun _ => fun
  | [d] => { results := [.lit (.bool true)], args := [d] }
  | _ => none }
def fnQueuesRow : OpenClaim := { program := "ytacpoandikheeaa", sum := "612367e944a30a5b4ef2109c62b5c352d0e7f3007ed43715a76042b0a12ba28c", func := "loop.example/g00200/laws.FnQueues", spec := "fnQueues", unfollowed := true, recurses := true, apart := false }
def FnQueuesSaid : Prop := fnQueuesRow.holds Try.pinned (OpenSpec.ofChange fnQueuesSpec)

/-- ITS FALSE NEIGHBOUR: 'it returns false'. Refute it at one input. -/
def fnQueuesWrong : ChangeSpec := { name := "fnQueues", fn := fun _ => fun
  | [d] => { results := [.lit (.bool false)], args := [d] }
  | _ => none }
def FnQueuesWrongFalsely : Prop := fnQueuesRow.holds Try.pinned (OpenSpec.ofChange fnQueuesWrong)

/-- 'laws.FnSamples': WHATEVER THE INPUT: true; the input reads as it did. -/
def fnSamplesSpec : ChangeSpec := { name := "fnSamples", fn := fun _ => fun
  | [d] => { results := [.lit (.bool true)], args := [d] }
  | _ => none }
def fnSamplesRow : OpenClaim := { program := "ytacpoandikheeaa", sum := "612367e944a30a5b4ef2109c62b5c352d0e7f3007ed43715a76042b0a12ba28c", func := "loop.example/g00200/laws.FnSamples", spec := "fnSamples", unfollowed := true, recurses := true, apart := false }
def FnSamplesSaid : Prop := fnSamplesRow.holds Try.pinned (OpenSpec.ofChange fnSamplesSpec)

/-- ITS FALSE NEIGHBOUR: 'it returns false'. Refute it at one input. -/
def fnSamplesWrong : ChangeSpec := { name := "fnSamples", fn := fun _ => fun
  | [d] => { results := [.lit (.bool false)], args := [d] }
  | _ => none }
def FnSamplesWrongFalsely : Prop := fnSamplesRow.holds Try.pinned (OpenSpec.ofChange fnSamplesWrong)

/-- 'laws.FnPorts': WHATEVER THE INPUT: true; the input reads as it did. -/
def fnPortsSpec : ChangeSpec := { name := "fnPorts", fn := fun _ => fun
  | [d] => { results := [.lit (.bool true)], args := [d] }
  | _ => none }
def fnPortsRow : OpenClaim := { program := "ytacpoandikheeaa", sum := "612367e944a30a5b4ef2109c62b5c352d0e7f3007ed43715a76042b0a12ba28c", func := "loop.example/g00200/laws.FnPorts", spec := "fnPorts", unfollowed := true, recurses := true, apart := false }
def FnPortsSaid : Prop := fnPortsRow.holds Try.pinned (OpenSpec.ofChange fnPortsSpec)

/-- ITS FALSE NEIGHBOUR: 'it returns false'. Refute it at one input. -/
def fnPortsWrong : ChangeSpec := { name := "fnPorts", fn := fun _ => fun
  | [d] => { results := [.lit (.bool false)], args := [d] }
  | _ => none }
def FnPortsWrongFalsely : Prop := fnPortsRow.holds Try.pinned (OpenSpec.ofChange fnPortsWrong)

/- THE SECOND FORM. 'bulk': how many values and letters a reading holds, each counted each time it is reached (what is shared counts as often as it is met; a slice's spare places count too). A statement '..UptoSaid' is the law's where the arguments, and the package variables that the reading takes, are together of bulk at most 1048576: NARROWER than '..Said'. Prove '..Said' where nothing that the law and all that it calls make is longer than what came in: it says more and counts as full. Else prove '..UptoSaid'. A law counts once. -/
mutual
def uptoBulk {H : Type} : DataW H → Nat
  | .lit (.string bytes) => bytes.length + 1
  | .lit _ => 1
  | .nil => 1
  | .ptr d => uptoBulk d + 1
  | .slice elems spare => uptoBulkAll elems + uptoBulkAll spare + 1
  | .agg parts => uptoBulkAll parts + 1
  | .iface _ d => uptoBulk d + 1
  | .map entries => uptoBulkEntries entries + 1
  | .held _ => 1
def uptoBulkAll {H : Type} : List (DataW H) → Nat
  | [] => 0
  | d :: r => uptoBulk d + uptoBulkAll r
def uptoBulkEntries {H : Type} : List (Lit × DataW H) → Nat
  | [] => 0
  | x :: r => uptoBulkEntry x + uptoBulkEntries r
def uptoBulkEntry {H : Type} : Lit × DataW H → Nat
  | (.string bytes, d) => bytes.length + uptoBulk d + 1
  | (_, d) => uptoBulk d + 1
 end
def uptoSmall : (H : Type) → List (DataW H) → Bool := fun _ ds => decide (uptoBulkAll ds ≤ 1048576)
def OpenSpec.upto (s : _root_.Go.ChangeSpec) : _root_.Go.OpenSpec := { _root_.Go.OpenSpec.ofChange s with cond := some uptoSmall }

/-- 'laws.FnExactSendPort', WHERE WHAT IT READS IS OF BULK AT MOST 1048576: true; the input reads as it did. -/
def fnExactSendPortUptoRow : OpenClaim := { program := "ytacpoandikheeaa", sum := "612367e944a30a5b4ef2109c62b5c352d0e7f3007ed43715a76042b0a12ba28c", func := "loop.example/g00200/laws.FnExactSendPort", spec := "fnExactSendPort", unfollowed := true, recurses := true, apart := false, narrowed := true }
def FnExactSendPortUptoSaid : Prop := fnExactSendPortUptoRow.holds Try.pinned (OpenSpec.upto fnExactSendPortSpec)

/-- 'laws.FnExactTakePort', WHERE WHAT IT READS IS OF BULK AT MOST 1048576: true; the input reads as it did. -/
def fnExactTakePortUptoRow : OpenClaim := { program := "ytacpoandikheeaa", sum := "612367e944a30a5b4ef2109c62b5c352d0e7f3007ed43715a76042b0a12ba28c", func := "loop.example/g00200/laws.FnExactTakePort", spec := "fnExactTakePort", unfollowed := true, recurses := true, apart := false, narrowed := true }
def FnExactTakePortUptoSaid : Prop := fnExactTakePortUptoRow.holds Try.pinned (OpenSpec.upto fnExactTakePortSpec)

/-- 'laws.FnQueues', WHERE WHAT IT READS IS OF BULK AT MOST 1048576: true; the input reads as it did. -/
def fnQueuesUptoRow : OpenClaim := { program := "ytacpoandikheeaa", sum := "612367e944a30a5b4ef2109c62b5c352d0e7f3007ed43715a76042b0a12ba28c", func := "loop.example/g00200/laws.FnQueues", spec := "fnQueues", unfollowed := true, recurses := true, apart := false, narrowed := true }
def FnQueuesUptoSaid : Prop := fnQueuesUptoRow.holds Try.pinned (OpenSpec.upto fnQueuesSpec)

/-- 'laws.FnSamples', WHERE WHAT IT READS IS OF BULK AT MOST 1048576: true; the input reads as it did. -/
def fnSamplesUptoRow : OpenClaim := { program := "ytacpoandikheeaa", sum := "612367e944a30a5b4ef2109c62b5c352d0e7f3007ed43715a76042b0a12ba28c", func := "loop.example/g00200/laws.FnSamples", spec := "fnSamples", unfollowed := true, recurses := true, apart := false, narrowed := true }
def FnSamplesUptoSaid : Prop := fnSamplesUptoRow.holds Try.pinned (OpenSpec.upto fnSamplesSpec)

/-- 'laws.FnPorts', WHERE WHAT IT READS IS OF BULK AT MOST 1048576: true; the input reads as it did. -/
def fnPortsUptoRow : OpenClaim := { program := "ytacpoandikheeaa", sum := "612367e944a30a5b4ef2109c62b5c352d0e7f3007ed43715a76042b0a12ba28c", func := "loop.example/g00200/laws.FnPorts", spec := "fnPorts", unfollowed := true, recurses := true, apart := false, narrowed := true }
def FnPortsUptoSaid : Prop := fnPortsUptoRow.holds Try.pinned (OpenSpec.upto fnPortsSpec)

end Rows
end Go.Proofs.Ytacpoandikheeaa
