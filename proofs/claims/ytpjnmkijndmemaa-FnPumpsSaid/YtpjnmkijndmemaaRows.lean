/-
  No cell of these rows narrows 'for every input' (looked for: loops, veiled, ifaces, maps, wideKeys, modest, calm, conditions, laid).
  DERIVED. THE GIVEN ROWS OF THIS SEAT. 10 by the template 'for every input the law returns true; each argument reads behind the call as it read before'; 0 by the template 'total and deterministic' (their statements: YtpjnmkijndmemaaTotals.lean).
  GIVEN WITH THE SEED: the statements are not yours to turn. If you find one false, say at which input.
  Laid BY PROGRAM, IN A SANDBOX (cutbox-rows.mjs): the forced cells as the released guide's own fill.sh prints them over the translation 1cb48358271bdeb9… (all of the seat's roots in one cut). By AI agents, Wed Nov 11 2026. No macro, syntax, notation, axiom, sorry.
-/
import Derived.Test.YtpjnmkijndmemaaChecked
import GoSem.Claim
import GoSem.ClaimJoined
import GoSem.ClaimMapViews
import Derived.JoinedTies
import Derived.KernelRfl
namespace Go.Proofs.Ytpjnmkijndmemaa
/- THE CELL 'sum', in the pinned program and in every row, IS THE sha256 OF THE DUMP (.gsa) THAT YtpjnmkijndmemaaProg.lean LOADS. Nothing in Lean hashes anything: it is a label: what it is worth is what the hold of that sum in a sandbox is worth. -/
noncomputable def Try.pinned : Pinned := { name := "ytpjnmkijndmemaa", sum := "1cb48358271bdeb93c65425a7f8062404f654c6d9c6db4fbf938bef24612c815", checked := Try.checked }
namespace Rows
def none {H : Type} : Left H := { results := [], args := [] }

/-- 'laws.FnPumps': WHATEVER THE INPUT: true; the input reads as it did. -/
def fnPumpsSpec : ChangeSpec := { name := "fnPumps", fn := fun _ => fun
  | [d] => { results := [.lit (.bool true)], args := [d] }
  | _ => none }
def fnPumpsRow : OpenClaim := { program := "ytpjnmkijndmemaa", sum := "1cb48358271bdeb93c65425a7f8062404f654c6d9c6db4fbf938bef24612c815", func := "loop.example/g00200/laws.FnPumps", spec := "fnPumps", unfollowed := true, recurses := true, apart := false }
def FnPumpsSaid : Prop := fnPumpsRow.holds Try.pinned (OpenSpec.ofChange fnPumpsSpec)

/-- ITS FALSE NEIGHBOUR: 'it returns false'. Refute it at one input. -/
def fnPumpsWrong : ChangeSpec := { name := "fnPumps", fn := fun _ => fun
  | [d] => { results := [.lit (.bool false)], args := [d] }
  | _ => none }
def FnPumpsWrongFalsely : Prop := fnPumpsRow.holds Try.pinned (OpenSpec.ofChange fnPumpsWrong)

/-- 'laws.FnVolumes': WHATEVER THE INPUT: true; the input reads as it did. -/
def fnVolumesSpec : ChangeSpec := { name := "fnVolumes", fn := fun _ => fun
  | [d] => { results := [.lit (.bool true)], args := [d] }
  | _ => none }
def fnVolumesRow : OpenClaim := { program := "ytpjnmkijndmemaa", sum := "1cb48358271bdeb93c65425a7f8062404f654c6d9c6db4fbf938bef24612c815", func := "loop.example/g00200/laws.FnVolumes", spec := "fnVolumes", unfollowed := true, recurses := true, apart := false }
def FnVolumesSaid : Prop := fnVolumesRow.holds Try.pinned (OpenSpec.ofChange fnVolumesSpec)

/-- ITS FALSE NEIGHBOUR: 'it returns false'. Refute it at one input. -/
def fnVolumesWrong : ChangeSpec := { name := "fnVolumes", fn := fun _ => fun
  | [d] => { results := [.lit (.bool false)], args := [d] }
  | _ => none }
def FnVolumesWrongFalsely : Prop := fnVolumesRow.holds Try.pinned (OpenSpec.ofChange fnVolumesWrong)

/-- 'laws.FnKeepsOpen': WHATEVER THE INPUT: true; the input reads as it did. -/
def fnKeepsOpenSpec : ChangeSpec := { name := "fnKeepsOpen", fn := fun _ => fun
  | [d] => { results := [.lit (.bool true)], args := [d] }
  | _ => none }
def fnKeepsOpenRow : OpenClaim := { program := "ytpjnmkijndmemaa", sum := "1cb48358271bdeb93c65425a7f8062404f654c6d9c6db4fbf938bef24612c815", func := "loop.example/g00200/laws.FnKeepsOpen", spec := "fnKeepsOpen", unfollowed := true, recurses := true, apart := false }
def FnKeepsOpenSaid : Prop := fnKeepsOpenRow.holds Try.pinned (OpenSpec.ofChange fnKeepsOpenSpec)

/-- ITS FALSE NEIGHBOUR: 'it returns false'. Refute it at one input. -/
def fnKeepsOpenWrong : ChangeSpec := { name := "fnKeepsOpen", fn := fun _ => fun
  | [d] => { results := [.lit (.bool false)], args := [d] }
  | _ => none }
def FnKeepsOpenWrongFalsely : Prop := fnKeepsOpenRow.holds Try.pinned (OpenSpec.ofChange fnKeepsOpenWrong)

/-- 'laws.FnBoluses': WHATEVER THE INPUT: true; the input reads as it did. -/
def fnBolusesSpec : ChangeSpec := { name := "fnBoluses", fn := fun _ => fun
  | [d] => { results := [.lit (.bool true)], args := [d] }
  | _ => none }
def fnBolusesRow : OpenClaim := { program := "ytpjnmkijndmemaa", sum := "1cb48358271bdeb93c65425a7f8062404f654c6d9c6db4fbf938bef24612c815", func := "loop.example/g00200/laws.FnBoluses", spec := "fnBoluses", unfollowed := true, recurses := true, apart := false }
def FnBolusesSaid : Prop := fnBolusesRow.holds Try.pinned (OpenSpec.ofChange fnBolusesSpec)

/-- ITS FALSE NEIGHBOUR: 'it returns false'. Refute it at one input. -/
def fnBolusesWrong : ChangeSpec := { name := "fnBoluses", fn := fun _ => fun
  | [d] => { results := [.lit (.bool false)], args := [d] }
  | _ => none }
def FnBolusesWrongFalsely : Prop := fnBolusesRow.holds Try.pinned (OpenSpec.ofChange fnBolusesWrong)

/-- 'laws.FnPauses': WHATEVER THE INPUT: true; the input reads as it did. -/
def fnPausesSpec : ChangeSpec := { name := "fnPauses", fn := fun _ => fun
  | [d] => { results := [.lit (.bool true)], args := [d] }
  | _ => none }
def fnPausesRow : OpenClaim := { program := "ytpjnmkijndmemaa", sum := "1cb48358271bdeb93c65425a7f8062404f654c6d9c6db4fbf938bef24612c815", func := "loop.example/g00200/laws.FnPauses", spec := "fnPauses", unfollowed := true, recurses := true, apart := false }
def FnPausesSaid : Prop := fnPausesRow.holds Try.pinned (OpenSpec.ofChange fnPausesSpec)

/-- ITS FALSE NEIGHBOUR: 'it returns false'. Refute it at one input. -/
def fnPausesWrong : ChangeSpec := { name := "fnPauses", fn := fun _ => fun
  | [d] => { results := [.lit (.bool false)], args := [d] }
  | _ => none }
def FnPausesWrongFalsely : Prop := fnPausesRow.holds Try.pinned (OpenSpec.ofChange fnPausesWrong)

/-- 'laws.FnExactPumpNew': WHATEVER THE INPUT: true; the input reads as it did. -/
def fnExactPumpNewSpec : ChangeSpec := { name := "fnExactPumpNew", fn := fun _ => fun
  | [] => { results := [.lit (.bool true)], args := [] }
  | _ => none }
def fnExactPumpNewRow : OpenClaim := { program := "ytpjnmkijndmemaa", sum := "1cb48358271bdeb93c65425a7f8062404f654c6d9c6db4fbf938bef24612c815", func := "loop.example/g00200/laws.FnExactPumpNew", spec := "fnExactPumpNew", apart := false }
def FnExactPumpNewSaid : Prop := fnExactPumpNewRow.holds Try.pinned (OpenSpec.ofChange fnExactPumpNewSpec)

/-- ITS FALSE NEIGHBOUR: 'it returns false'. Refute it at one input. -/
def fnExactPumpNewWrong : ChangeSpec := { name := "fnExactPumpNew", fn := fun _ => fun
  | [] => { results := [.lit (.bool false)], args := [] }
  | _ => none }
def FnExactPumpNewWrongFalsely : Prop := fnExactPumpNewRow.holds Try.pinned (OpenSpec.ofChange fnExactPumpNewWrong)

/-- 'laws.FnExactPumpOk': WHATEVER THE INPUT: true; the input reads as it did. -/
def fnExactPumpOkSpec : ChangeSpec := { name := "fnExactPumpOk", fn := fun _ => fun
  | [d] => { results := [.lit (.bool true)], args := [d] }
  | _ => none }
def fnExactPumpOkRow : OpenClaim := { program := "ytpjnmkijndmemaa", sum := "1cb48358271bdeb93c65425a7f8062404f654c6d9c6db4fbf938bef24612c815", func := "loop.example/g00200/laws.FnExactPumpOk", spec := "fnExactPumpOk", apart := false }
def FnExactPumpOkSaid : Prop := fnExactPumpOkRow.holds Try.pinned (OpenSpec.ofChange fnExactPumpOkSpec)

/-- ITS FALSE NEIGHBOUR: 'it returns false'. Refute it at one input. -/
def fnExactPumpOkWrong : ChangeSpec := { name := "fnExactPumpOk", fn := fun _ => fun
  | [d] => { results := [.lit (.bool false)], args := [d] }
  | _ => none }
def FnExactPumpOkWrongFalsely : Prop := fnExactPumpOkRow.holds Try.pinned (OpenSpec.ofChange fnExactPumpOkWrong)

/-- 'laws.FnExactTake': WHATEVER THE INPUT: true; the input reads as it did. -/
def fnExactTakeSpec : ChangeSpec := { name := "fnExactTake", fn := fun _ => fun
  | [d1, d2] => { results := [.lit (.bool true)], args := [d1, d2] }
  | _ => none }
def fnExactTakeRow : OpenClaim := { program := "ytpjnmkijndmemaa", sum := "1cb48358271bdeb93c65425a7f8062404f654c6d9c6db4fbf938bef24612c815", func := "loop.example/g00200/laws.FnExactTake", spec := "fnExactTake", unfollowed := true, recurses := true, apart := false }
def FnExactTakeSaid : Prop := fnExactTakeRow.holds Try.pinned (OpenSpec.ofChange fnExactTakeSpec)

/-- ITS FALSE NEIGHBOUR: 'it returns false'. Refute it at one input. -/
def fnExactTakeWrong : ChangeSpec := { name := "fnExactTake", fn := fun _ => fun
  | [d1, d2] => { results := [.lit (.bool false)], args := [d1, d2] }
  | _ => none }
def FnExactTakeWrongFalsely : Prop := fnExactTakeRow.holds Try.pinned (OpenSpec.ofChange fnExactTakeWrong)

/-- 'laws.FnExactWants': WHATEVER THE INPUT: true; the input reads as it did. -/
def fnExactWantsSpec : ChangeSpec := { name := "fnExactWants", fn := fun _ => fun
  | [d] => { results := [.lit (.bool true)], args := [d] }
  | _ => none }
def fnExactWantsRow : OpenClaim := { program := "ytpjnmkijndmemaa", sum := "1cb48358271bdeb93c65425a7f8062404f654c6d9c6db4fbf938bef24612c815", func := "loop.example/g00200/laws.FnExactWants", spec := "fnExactWants", unfollowed := true, recurses := true, apart := false }
def FnExactWantsSaid : Prop := fnExactWantsRow.holds Try.pinned (OpenSpec.ofChange fnExactWantsSpec)

/-- ITS FALSE NEIGHBOUR: 'it returns false'. Refute it at one input. -/
def fnExactWantsWrong : ChangeSpec := { name := "fnExactWants", fn := fun _ => fun
  | [d] => { results := [.lit (.bool false)], args := [d] }
  | _ => none }
def FnExactWantsWrongFalsely : Prop := fnExactWantsRow.holds Try.pinned (OpenSpec.ofChange fnExactWantsWrong)

/-- 'laws.FnExactGive': WHATEVER THE INPUT: true; the input reads as it did. -/
def fnExactGiveSpec : ChangeSpec := { name := "fnExactGive", fn := fun _ => fun
  | [d1, d2] => { results := [.lit (.bool true)], args := [d1, d2] }
  | _ => none }
def fnExactGiveRow : OpenClaim := { program := "ytpjnmkijndmemaa", sum := "1cb48358271bdeb93c65425a7f8062404f654c6d9c6db4fbf938bef24612c815", func := "loop.example/g00200/laws.FnExactGive", spec := "fnExactGive", unfollowed := true, recurses := true, apart := false }
def FnExactGiveSaid : Prop := fnExactGiveRow.holds Try.pinned (OpenSpec.ofChange fnExactGiveSpec)

/-- ITS FALSE NEIGHBOUR: 'it returns false'. Refute it at one input. -/
def fnExactGiveWrong : ChangeSpec := { name := "fnExactGive", fn := fun _ => fun
  | [d1, d2] => { results := [.lit (.bool false)], args := [d1, d2] }
  | _ => none }
def FnExactGiveWrongFalsely : Prop := fnExactGiveRow.holds Try.pinned (OpenSpec.ofChange fnExactGiveWrong)

/- THE SECOND FORM. 'bulk': how many values and letters a reading holds, each counted each time it is reached (what is shared counts as often as it is met; a slice's spare places count too). A statement '..UptoSaid' is the law's where the arguments, and the package variables that the reading takes, are together of bulk at most 1048576: NARROWER than '..Said'. Prove '..Said' where nothing that the law and all that it calls make is longer than what came in: it says more and counts as full. Else prove '..UptoSaid'. A law counts once. -/
mutual
def uptoBulk {H : Type} : DataW H → Nat
  | .lit (.string bytes) => bytes.length + 1
  | .lit _ => 1
  | .nil => 1
  | .ptr d => uptoBulk d + 1
  | .slice elems spare => uptoBulkAll elems + uptoBulkAll spare + 1
  | .agg parts => uptoBulkAll parts + 1
  | .iface _ d => uptoBulk d + 1
  | .map entries => uptoBulkEntries entries + 1
  | .held _ => 1
def uptoBulkAll {H : Type} : List (DataW H) → Nat
  | [] => 0
  | d :: r => uptoBulk d + uptoBulkAll r
def uptoBulkEntries {H : Type} : List (Lit × DataW H) → Nat
  | [] => 0
  | x :: r => uptoBulkEntry x + uptoBulkEntries r
def uptoBulkEntry {H : Type} : Lit × DataW H → Nat
  | (.string bytes, d) => bytes.length + uptoBulk d + 1
  | (_, d) => uptoBulk d + 1
 end
def uptoSmall : (H : Type) → List (DataW H) → Bool := fun _ ds => decide (uptoBulkAll ds ≤ 1048576)
def OpenSpec.upto (s : _root_.Go.ChangeSpec) : _root_.Go.OpenSpec := { _root_.Go.OpenSpec.ofChange s with cond := some uptoSmall }

/-- 'laws.FnPumps', WHERE WHAT IT READS IS OF BULK AT MOST 1048576: true; the input reads as it did. -/
def fnPumpsUptoRow : OpenClaim := { program := "ytpjnmkijndmemaa", sum := "1cb48358271bdeb93c65425a7f8062404f654c6d9c6db4fbf938bef24612c815", func := "loop.example/g00200/laws.FnPumps", spec := "fnPumps", unfollowed := true, recurses := true, apart := false, narrowed := true }
def FnPumpsUptoSaid : Prop := fnPumpsUptoRow.holds Try.pinned (OpenSpec.upto fnPumpsSpec)

/-- 'laws.FnVolumes', WHERE WHAT IT READS IS OF BULK AT MOST 1048576: true; the input reads as it did. -/
def fnVolumesUptoRow : OpenClaim := { program := "ytpjnmkijndmemaa", sum := "1cb48358271bdeb93c65425a7f8062404f654c6d9c6db4fbf938bef24612c815", func := "loop.example/g00200/laws.FnVolumes", spec := "fnVolumes", unfollowed := true, recurses := true, apart := false, narrowed := true }
def FnVolumesUptoSaid : Prop := fnVolumesUptoRow.holds Try.pinned (OpenSpec.upto fnVolumesSpec)

/-- 'laws.FnKeepsOpen', WHERE WHAT IT READS IS OF BULK AT MOST 1048576: true; the input reads as it did. -/
def fnKeepsOpenUptoRow : OpenClaim := { program := "ytpjnmkijndmemaa", sum := "1cb48358271bdeb93c65425a7f8062404f654c6d9c6db4fbf938bef24612c815", func := "loop.example/g00200/laws.FnKeepsOpen", spec := "fnKeepsOpen", unfollowed := true, recurses := true, apart := false, narrowed := true }
def FnKeepsOpenUptoSaid : Prop := fnKeepsOpenUptoRow.holds Try.pinned (OpenSpec.upto fnKeepsOpenSpec)

/-- 'laws.FnBoluses', WHERE WHAT IT READS IS OF BULK AT MOST 1048576: true; the input reads as it did. -/
def fnBolusesUptoRow : OpenClaim := { program := "ytpjnmkijndmemaa", sum := "1cb48358271bdeb93c65425a7f8062404f654c6d9c6db4fbf938bef24612c815", func := "loop.example/g00200/laws.FnBoluses", spec := "fnBoluses", unfollowed := true, recurses := true, apart := false, narrowed := true }
def FnBolusesUptoSaid : Prop := fnBolusesUptoRow.holds Try.pinned (OpenSpec.upto fnBolusesSpec)

/-- 'laws.FnPauses', WHERE WHAT IT READS IS OF BULK AT MOST 1048576: true; the input reads as it did. -/
def fnPausesUptoRow : OpenClaim := { program := "ytpjnmkijndmemaa", sum := "1cb48358271bdeb93c65425a7f8062404f654c6d9c6db4fbf938bef24612c815", func := "loop.example/g00200/laws.FnPauses", spec := "fnPauses", unfollowed := true, recurses := true, apart := false, narrowed := true }
def FnPausesUptoSaid : Prop := fnPausesUptoRow.holds Try.pinned (OpenSpec.upto fnPausesSpec)

/-- 'laws.FnExactPumpNew', WHERE WHAT IT READS IS OF BULK AT MOST 1048576: true; the input reads as it did. -/
def fnExactPumpNewUptoRow : OpenClaim := { program := "ytpjnmkijndmemaa", sum := "1cb48358271bdeb93c65425a7f8062404f654c6d9c6db4fbf938bef24612c815", func := "loop.example/g00200/laws.FnExactPumpNew", spec := "fnExactPumpNew", apart := false, narrowed := true }
def FnExactPumpNewUptoSaid : Prop := fnExactPumpNewUptoRow.holds Try.pinned (OpenSpec.upto fnExactPumpNewSpec)

/-- 'laws.FnExactPumpOk', WHERE WHAT IT READS IS OF BULK AT MOST 1048576: true; the input reads as it did. -/
def fnExactPumpOkUptoRow : OpenClaim := { program := "ytpjnmkijndmemaa", sum := "1cb48358271bdeb93c65425a7f8062404f654c6d9c6db4fbf938bef24612c815", func := "loop.example/g00200/laws.FnExactPumpOk", spec := "fnExactPumpOk", apart := false, narrowed := true }
def FnExactPumpOkUptoSaid : Prop := fnExactPumpOkUptoRow.holds Try.pinned (OpenSpec.upto fnExactPumpOkSpec)

/-- 'laws.FnExactTake', WHERE WHAT IT READS IS OF BULK AT MOST 1048576: true; the input reads as it did. -/
def fnExactTakeUptoRow : OpenClaim := { program := "ytpjnmkijndmemaa", sum := "1cb48358271bdeb93c65425a7f8062404f654c6d9c6db4fbf938bef24612c815", func := "loop.example/g00200/laws.FnExactTake", spec := "fnExactTake", unfollowed := true, recurses := true, apart := false, narrowed := true }
def FnExactTakeUptoSaid : Prop := fnExactTakeUptoRow.holds Try.pinned (OpenSpec.upto fnExactTakeSpec)

/-- 'laws.FnExactWants', WHERE WHAT IT READS IS OF BULK AT MOST 1048576: true; the input reads as it did. -/
def fnExactWantsUptoRow : OpenClaim := { program := "ytpjnmkijndmemaa", sum := "1cb48358271bdeb93c65425a7f8062404f654c6d9c6db4fbf938bef24612c815", func := "loop.example/g00200/laws.FnExactWants", spec := "fnExactWants", unfollowed := true, recurses := true, apart := false, narrowed := true }
def FnExactWantsUptoSaid : Prop := fnExactWantsUptoRow.holds Try.pinned (OpenSpec.upto fnExactWantsSpec)

/-- 'laws.FnExactGive', WHERE WHAT IT READS IS OF BULK AT MOST 1048576: true; the input reads as it did. -/
def fnExactGiveUptoRow : OpenClaim := { program := "ytpjnmkijndmemaa", sum := "1cb48358271bdeb93c65425a7f8062404f654c6d9c6db4fbf938bef24612c815", func := "loop.example/g00200/laws.FnExactGive", spec := "fnExactGive", unfollowed := true, recurses := true, apart := false, narrowed := true }
def FnExactGiveUptoSaid : Prop := fnExactGiveUptoRow.holds Try.pinned (OpenSpec.upto fnExactGiveSpec)

end Rows
end Go.Proofs.Ytpjnmkijndmemaa
