/-
  No cell of these rows narrows 'for every input' (looked for: loops, veiled, ifaces, maps, wideKeys, modest, calm, conditions, laid).
  DERIVED. THE GIVEN ROWS OF THIS SEAT. 4 by the template 'for every input the law returns true; each argument reads behind the call as it read before'; 0 by the template 'total and deterministic' (their statements: YtfdhcchakoldpaaTotals.lean).
  GIVEN WITH THE SEED: the statements are not yours to turn. If you find one false, say at which input.
  Laid BY PROGRAM, IN A SANDBOX (cutbox-rows.mjs): the forced cells as the released guide's own fill.sh prints them over the translation 2fced48a3a1a1d7c… (all of the seat's roots in one cut). By AI agents, Wed Nov 11 2026. No macro, syntax, notation, axiom, sorry.
-/
import Derived.Test.YtfdhcchakoldpaaChecked
import GoSem.Claim
import GoSem.ClaimJoined
import GoSem.ClaimMapViews
import Derived.JoinedTies
import Derived.KernelRfl
namespace Go.Proofs.Ytfdhcchakoldpaa
/- THE CELL 'sum', in the pinned program and in every row, IS THE sha256 OF THE DUMP (.gsa) THAT YtfdhcchakoldpaaProg.lean LOADS. Nothing in Lean hashes anything: it is a label: what it is worth is what the hold of that sum in a sandbox is worth. -/
noncomputable def Try.pinned : Pinned := { name := "ytfdhcchakoldpaa", sum := "2fced48a3a1a1d7cb5e037e8289eb4a93a14afb313a338a617bd47e9e47ddfd1", checked := Try.checked }
namespace Rows
def none {H : Type} : Left H := { results := [], args := [] }

/-- 'laws.FnApartOf': WHATEVER THE INPUT: true; the input reads as it did. -/
def fnApartOfSpec : ChangeSpec := { name := "fnApartOf", fn := fun _ => fun
  | [d] => { results := [.lit (.bool true)], args := [d] }
  | _ => none }
def fnApartOfRow : OpenClaim := { program := "ytfdhcchakoldpaa", sum := "2fced48a3a1a1d7cb5e037e8289eb4a93a14afb313a338a617bd47e9e47ddfd1", func := "loop.example/g00200/laws.FnApartOf", spec := "fnApartOf", apart := false }
def FnApartOfSaid : Prop := fnApartOfRow.holds Try.pinned (OpenSpec.ofChange fnApartOfSpec)

/-- ITS FALSE NEIGHBOUR: 'it returns false'. Refute it at one input. -/
def fnApartOfWrong : ChangeSpec := { name := "fnApartOf", fn := fun _ => fun
  | [d] => { results := [.lit (.bool false)], args := [d] }
  | _ => none }
def FnApartOfWrongFalsely : Prop := fnApartOfRow.holds Try.pinned (OpenSpec.ofChange fnApartOfWrong)

/-- 'laws.FnExactStopsOnAlarm': WHATEVER THE INPUT: true; the input reads as it did. -/
def fnExactStopsOnAlarmSpec : ChangeSpec := { name := "fnExactStopsOnAlarm", fn := fun _ => fun
  | [d] => { results := [.lit (.bool true)], args := [d] }
  | _ => none }
def fnExactStopsOnAlarmRow : OpenClaim := { program := "ytfdhcchakoldpaa", sum := "2fced48a3a1a1d7cb5e037e8289eb4a93a14afb313a338a617bd47e9e47ddfd1", func := "loop.example/g00200/laws.FnExactStopsOnAlarm", spec := "fnExactStopsOnAlarm", unfollowed := true, recurses := true, apart := false }
def FnExactStopsOnAlarmSaid : Prop := fnExactStopsOnAlarmRow.holds Try.pinned (OpenSpec.ofChange fnExactStopsOnAlarmSpec)

/-- ITS FALSE NEIGHBOUR: 'it returns false'. Refute it at one input. -/
def fnExactStopsOnAlarmWrong : ChangeSpec := { name := "fnExactStopsOnAlarm", fn := fun _ => fun
  | [d] => { results := [.lit (.bool false)], args := [d] }
  | _ => none }
def FnExactStopsOnAlarmWrongFalsely : Prop := fnExactStopsOnAlarmRow.holds Try.pinned (OpenSpec.ofChange fnExactStopsOnAlarmWrong)

/-- 'laws.FnExactSoundDevice': WHATEVER THE INPUT: true; the input reads as it did. -/
def fnExactSoundDeviceSpec : ChangeSpec := { name := "fnExactSoundDevice", fn := fun _ => fun
  | [d] => { results := [.lit (.bool true)], args := [d] }
  | _ => none }
def fnExactSoundDeviceRow : OpenClaim := { program := "ytfdhcchakoldpaa", sum := "2fced48a3a1a1d7cb5e037e8289eb4a93a14afb313a338a617bd47e9e47ddfd1", func := "loop.example/g00200/laws.FnExactSoundDevice", spec := "fnExactSoundDevice", unfollowed := true, recurses := true, apart := false }
def FnExactSoundDeviceSaid : Prop := fnExactSoundDeviceRow.holds Try.pinned (OpenSpec.ofChange fnExactSoundDeviceSpec)

/-- ITS FALSE NEIGHBOUR: 'it returns false'. Refute it at one input. -/
def fnExactSoundDeviceWrong : ChangeSpec := { name := "fnExactSoundDevice", fn := fun _ => fun
  | [d] => { results := [.lit (.bool false)], args := [d] }
  | _ => none }
def FnExactSoundDeviceWrongFalsely : Prop := fnExactSoundDeviceRow.holds Try.pinned (OpenSpec.ofChange fnExactSoundDeviceWrong)

/-- 'laws.FnExactApart': WHATEVER THE INPUT: true; the input reads as it did. -/
def fnExactApartSpec : ChangeSpec := { name := "fnExactApart", fn := fun _ => fun
  | [d1, d2, d3] => { results := [.lit (.bool true)], args := [d1, d2, d3] }
  | _ => none }
def fnExactApartRow : OpenClaim := { program := "ytfdhcchakoldpaa", sum := "2fced48a3a1a1d7cb5e037e8289eb4a93a14afb313a338a617bd47e9e47ddfd1", func := "loop.example/g00200/laws.FnExactApart", spec := "fnExactApart", apart := false }
def FnExactApartSaid : Prop := fnExactApartRow.holds Try.pinned (OpenSpec.ofChange fnExactApartSpec)

/-- ITS FALSE NEIGHBOUR: 'it returns false'. Refute it at one input. -/
def fnExactApartWrong : ChangeSpec := { name := "fnExactApart", fn := fun _ => fun
  | [d1, d2, d3] => { results := [.lit (.bool false)], args := [d1, d2, d3] }
  | _ => none }
def FnExactApartWrongFalsely : Prop := fnExactApartRow.holds Try.pinned (OpenSpec.ofChange fnExactApartWrong)

/- THE SECOND FORM. 'bulk': how many values and letters a reading holds, each counted each time it is reached (what is shared counts as often as it is met; a slice's spare places count too). A statement '..UptoSaid' is the law's where the arguments, and the package variables that the reading takes, are together of bulk at most 1048576: NARROWER than '..Said'. Prove '..Said' where nothing that the law and all that it calls make is longer than what came in: it says more and counts as full. Else prove '..UptoSaid'. A law counts once. -/
mutual
def uptoBulk {H : Type} : DataW H → Nat
  | .lit (.string bytes) => bytes.length + 1
  | .lit _ => 1
  | .nil => 1
  | .ptr d => uptoBulk d + 1
  | .slice elems spare => uptoBulkAll elems + uptoBulkAll spare + 1
  | .agg parts => uptoBulkAll parts + 1
  | .iface _ d => uptoBulk d + 1
  | .map entries => uptoBulkEntries entries + 1
  | .held _ => 1
def uptoBulkAll {H : Type} : List (DataW H) → Nat
  | [] => 0
  | d :: r => uptoBulk d + uptoBulkAll r
def uptoBulkEntries {H : Type} : List (Lit × DataW H) → Nat
  | [] => 0
  | x :: r => uptoBulkEntry x + uptoBulkEntries r
def uptoBulkEntry {H : Type} : Lit × DataW H → Nat
  | (.string bytes, d) => bytes.length + uptoBulk d + 1
  | (_, d) => uptoBulk d + 1
 end
def uptoSmall : (H : Type) → List (DataW H) → Bool := fun _ ds => decide (uptoBulkAll ds ≤ 1048576)
def OpenSpec.upto (s : _root_.Go.ChangeSpec) : _root_.Go.OpenSpec := { _root_.Go.OpenSpec.ofChange s with cond := some uptoSmall }

/-- 'laws.FnApartOf', WHERE WHAT IT READS IS OF BULK AT MOST 1048576: true; the input reads as it did. -/
def fnApartOfUptoRow : OpenClaim := { program := "ytfdhcchakoldpaa", sum := "2fced48a3a1a1d7cb5e037e8289eb4a93a14afb313a338a617bd47e9e47ddfd1", func := "loop.example/g00200/laws.FnApartOf", spec := "fnApartOf", apart := false, narrowed := true }
def FnApartOfUptoSaid : Prop := fnApartOfUptoRow.holds Try.pinned (OpenSpec.upto fnApartOfSpec)

/-- 'laws.FnExactStopsOnAlarm', WHERE WHAT IT READS IS OF BULK AT MOST 1048576: true; the input reads as it did. -/
def fnExactStopsOnAlarmUptoRow : OpenClaim := { program := "ytfdhcchakoldpaa", sum := "2fced48a3a1a1d7cb5e037e8289eb4a93a14afb313a338a617bd47e9e47ddfd1", func := "loop.example/g00200/laws.FnExactStopsOnAlarm", spec := "fnExactStopsOnAlarm", unfollowed := true, recurses := true, apart := false, narrowed := true }
def FnExactStopsOnAlarmUptoSaid : Prop := fnExactStopsOnAlarmUptoRow.holds Try.pinned (OpenSpec.upto fnExactStopsOnAlarmSpec)

/-- 'laws.FnExactSoundDevice', WHERE WHAT IT READS IS OF BULK AT MOST 1048576: true; the input reads as it did. -/
def fnExactSoundDeviceUptoRow : OpenClaim := { program := "ytfdhcchakoldpaa", sum := "2fced48a3a1a1d7cb5e037e8289eb4a93a14afb313a338a617bd47e9e47ddfd1", func := "loop.example/g00200/laws.FnExactSoundDevice", spec := "fnExactSoundDevice", unfollowed := true, recurses := true, apart := false, narrowed := true }
def FnExactSoundDeviceUptoSaid : Prop := fnExactSoundDeviceUptoRow.holds Try.pinned (OpenSpec.upto fnExactSoundDeviceSpec)

/-- 'laws.FnExactApart', WHERE WHAT IT READS IS OF BULK AT MOST 1048576: true; the input reads as it did. -/
def fnExactApartUptoRow : OpenClaim := { program := "ytfdhcchakoldpaa", sum := "2fced48a3a1a1d7cb5e037e8289eb4a93a14afb313a338a617bd47e9e47ddfd1", func := "loop.example/g00200/laws.FnExactApart", spec := "fnExactApart", apart := false, narrowed := true }
def FnExactApartUptoSaid : Prop := fnExactApartUptoRow.holds Try.pinned (OpenSpec.upto fnExactApartSpec)

end Rows
end Go.Proofs.Ytfdhcchakoldpaa
