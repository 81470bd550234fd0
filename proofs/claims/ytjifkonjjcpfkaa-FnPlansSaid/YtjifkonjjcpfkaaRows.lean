/-
  No cell of these rows narrows 'for every input' (looked for: loops, veiled, ifaces, maps, wideKeys, modest, calm, conditions, laid).
  DERIVED. THE GIVEN ROWS OF THIS SEAT. 6 by the template 'for every input the law returns true; each argument reads behind the call as it read before'; 0 by the template 'total and deterministic' (their statements: YtjifkonjjcpfkaaTotals.lean).
  GIVEN WITH THE SEED: the statements are not yours to turn. If you find one false, say at which input.
  Laid BY PROGRAM, IN A SANDBOX (cutbox-rows.mjs): the forced cells as the released guide's own fill.sh prints them over the translation 11e5c71e3fa4400b… (all of the seat's roots in one cut). By AI agents, Wed Nov 11 2026. No macro, syntax, notation, axiom, sorry.
-/
import Derived.Test.YtjifkonjjcpfkaaChecked
import GoSem.Claim
import GoSem.ClaimJoined
import GoSem.ClaimMapViews
import Derived.JoinedTies
import Derived.KernelRfl
namespace Go.Proofs.Ytjifkonjjcpfkaa
/- THE CELL 'sum', in the pinned program and in every row, IS THE sha256 OF THE DUMP (.gsa) THAT YtjifkonjjcpfkaaProg.lean LOADS. Nothing in Lean hashes anything: it is a label: what it is worth is what the hold of that sum in a sandbox is worth. -/
noncomputable def Try.pinned : Pinned := { name := "ytjifkonjjcpfkaa", sum := "11e5c71e3fa4400b355e9c2cc9d092e81e02a6ce1a5ecc9ce93ec28cc0162fed", checked := Try.checked }
namespace Rows
def none {H : Type} : Left H := { results := [], args := [] }

/-- 'laws.FnPlans': WHATEVER THE INPUT: true; the input reads as it did. -/
def fnPlansSpec : ChangeSpec := { name := "fnPlans", fn := fun _ => fun
  | [d] => { results := [.lit (.bool true)], args := [d] }
  | _ => none }
def fnPlansRow : OpenClaim := { program := "ytjifkonjjcpfkaa", sum := "11e5c71e3fa4400b355e9c2cc9d092e81e02a6ce1a5ecc9ce93ec28cc0162fed", func := "loop.example/g00200/laws.FnPlans", spec := "fnPlans", apart := false }
def FnPlansSaid : Prop := fnPlansRow.holds Try.pinned (OpenSpec.ofChange fnPlansSpec)

/-- ITS FALSE NEIGHBOUR: 'it returns false'. Refute it at one input. -/
def fnPlansWrong : ChangeSpec := { name := "fnPlans", fn := fun _ => fun
  | [d] => { results := [.lit (.bool false)], args := [d] }
  | _ => none }
def FnPlansWrongFalsely : Prop := fnPlansRow.holds Try.pinned (OpenSpec.ofChange fnPlansWrong)

/-- 'laws.FnHarmonics': WHATEVER THE INPUT: true; the input reads as it did. -/
def fnHarmonicsSpec : ChangeSpec := { name := "fnHarmonics", fn := fun _ => fun
  | [d] => { results := [.lit (.bool true)], args := [d] }
  | _ => none }
def fnHarmonicsRow : OpenClaim := { program := "ytjifkonjjcpfkaa", sum := "11e5c71e3fa4400b355e9c2cc9d092e81e02a6ce1a5ecc9ce93ec28cc0162fed", func := "loop.example/g00200/laws.FnHarmonics", spec := "fnHarmonics", leaving := true, apart := false }
def FnHarmonicsSaid : Prop := fnHarmonicsRow.holds Try.pinned (OpenSpec.ofChange fnHarmonicsSpec)

/-- ITS FALSE NEIGHBOUR: 'it returns false'. Refute it at one input. -/
def fnHarmonicsWrong : ChangeSpec := { name := "fnHarmonics", fn := fun _ => fun
  | [d] => { results := [.lit (.bool false)], args := [d] }
  | _ => none }
def FnHarmonicsWrongFalsely : Prop := fnHarmonicsRow.holds Try.pinned (OpenSpec.ofChange fnHarmonicsWrong)

/-- 'laws.FnExactPlanOk': WHATEVER THE INPUT: true; the input reads as it did. -/
def fnExactPlanOkSpec : ChangeSpec := { name := "fnExactPlanOk", fn := fun _ => fun
  | [d] => { results := [.lit (.bool true)], args := [d] }
  | _ => none }
def fnExactPlanOkRow : OpenClaim := { program := "ytjifkonjjcpfkaa", sum := "11e5c71e3fa4400b355e9c2cc9d092e81e02a6ce1a5ecc9ce93ec28cc0162fed", func := "loop.example/g00200/laws.FnExactPlanOk", spec := "fnExactPlanOk", apart := false }
def FnExactPlanOkSaid : Prop := fnExactPlanOkRow.holds Try.pinned (OpenSpec.ofChange fnExactPlanOkSpec)

/-- ITS FALSE NEIGHBOUR: 'it returns false'. Refute it at one input. -/
def fnExactPlanOkWrong : ChangeSpec := { name := "fnExactPlanOk", fn := fun _ => fun
  | [d] => { results := [.lit (.bool false)], args := [d] }
  | _ => none }
def FnExactPlanOkWrongFalsely : Prop := fnExactPlanOkRow.holds Try.pinned (OpenSpec.ofChange fnExactPlanOkWrong)

/-- 'laws.FnExactWindowAt': WHATEVER THE INPUT: true; the input reads as it did. -/
def fnExactWindowAtSpec : ChangeSpec := { name := "fnExactWindowAt", fn := fun _ => fun
  | [d1, d2] => { results := [.lit (.bool true)], args := [d1, d2] }
  | _ => none }
def fnExactWindowAtRow : OpenClaim := { program := "ytjifkonjjcpfkaa", sum := "11e5c71e3fa4400b355e9c2cc9d092e81e02a6ce1a5ecc9ce93ec28cc0162fed", func := "loop.example/g00200/laws.FnExactWindowAt", spec := "fnExactWindowAt", apart := false }
def FnExactWindowAtSaid : Prop := fnExactWindowAtRow.holds Try.pinned (OpenSpec.ofChange fnExactWindowAtSpec)

/-- ITS FALSE NEIGHBOUR: 'it returns false'. Refute it at one input. -/
def fnExactWindowAtWrong : ChangeSpec := { name := "fnExactWindowAt", fn := fun _ => fun
  | [d1, d2] => { results := [.lit (.bool false)], args := [d1, d2] }
  | _ => none }
def FnExactWindowAtWrongFalsely : Prop := fnExactWindowAtRow.holds Try.pinned (OpenSpec.ofChange fnExactWindowAtWrong)

/-- 'laws.FnExactTimeOf': WHATEVER THE INPUT: true; the input reads as it did. -/
def fnExactTimeOfSpec : ChangeSpec := { name := "fnExactTimeOf", fn := fun _ => fun
  | [d1, d2] => { results := [.lit (.bool true)], args := [d1, d2] }
  | _ => none }
def fnExactTimeOfRow : OpenClaim := { program := "ytjifkonjjcpfkaa", sum := "11e5c71e3fa4400b355e9c2cc9d092e81e02a6ce1a5ecc9ce93ec28cc0162fed", func := "loop.example/g00200/laws.FnExactTimeOf", spec := "fnExactTimeOf", apart := false }
def FnExactTimeOfSaid : Prop := fnExactTimeOfRow.holds Try.pinned (OpenSpec.ofChange fnExactTimeOfSpec)

/-- ITS FALSE NEIGHBOUR: 'it returns false'. Refute it at one input. -/
def fnExactTimeOfWrong : ChangeSpec := { name := "fnExactTimeOf", fn := fun _ => fun
  | [d1, d2] => { results := [.lit (.bool false)], args := [d1, d2] }
  | _ => none }
def FnExactTimeOfWrongFalsely : Prop := fnExactTimeOfRow.holds Try.pinned (OpenSpec.ofChange fnExactTimeOfWrong)

/-- 'laws.FnExactHarmonic': WHATEVER THE INPUT: true; the input reads as it did. -/
def fnExactHarmonicSpec : ChangeSpec := { name := "fnExactHarmonic", fn := fun _ => fun
  | [d1, d2] => { results := [.lit (.bool true)], args := [d1, d2] }
  | _ => none }
def fnExactHarmonicRow : OpenClaim := { program := "ytjifkonjjcpfkaa", sum := "11e5c71e3fa4400b355e9c2cc9d092e81e02a6ce1a5ecc9ce93ec28cc0162fed", func := "loop.example/g00200/laws.FnExactHarmonic", spec := "fnExactHarmonic", leaving := true, apart := false }
def FnExactHarmonicSaid : Prop := fnExactHarmonicRow.holds Try.pinned (OpenSpec.ofChange fnExactHarmonicSpec)

/-- ITS FALSE NEIGHBOUR: 'it returns false'. Refute it at one input. -/
def fnExactHarmonicWrong : ChangeSpec := { name := "fnExactHarmonic", fn := fun _ => fun
  | [d1, d2] => { results := [.lit (.bool false)], args := [d1, d2] }
  | _ => none }
def FnExactHarmonicWrongFalsely : Prop := fnExactHarmonicRow.holds Try.pinned (OpenSpec.ofChange fnExactHarmonicWrong)

/- THE SECOND FORM. 'bulk': how many values and letters a reading holds, each counted each time it is reached (what is shared counts as often as it is met; a slice's spare places count too). A statement '..UptoSaid' is the law's where the arguments, and the package variables that the reading takes, are together of bulk at most 1048576: NARROWER than '..Said'. Prove '..Said' where nothing that the law and all that it calls make is longer than what came in: it says more and counts as full. Else prove '..UptoSaid'. A law counts once. -/
mutual
def uptoBulk {H : Type} : DataW H → Nat
  | .lit (.string bytes) => bytes.length + 1
  | .lit _ => 1
  | .nil => 1
  | .ptr d => uptoBulk d + 1
  | .slice elems spare => uptoBulkAll elems + uptoBulkAll spare + 1
  | .agg parts => uptoBulkAll parts + 1
  | .iface _ d => uptoBulk d + 1
  | .map entries => uptoBulkEntries entries + 1
  | .held _ => 1
def uptoBulkAll {H : Type} : List (DataW H) → Nat
  | [] => 0
  | d :: r => uptoBulk d + uptoBulkAll r
def uptoBulkEntries {H : Type} : List (Lit × DataW H) → Nat
  | [] => 0
  | x :: r => uptoBulkEntry x + uptoBulkEntries r
def uptoBulkEntry {H : Type} : Lit × DataW H → Nat
  | (.string bytes, d) => bytes.length + uptoBulk d + 1
  | (_, d) => uptoBulk d + 1
 end
def uptoSmall : (H : Type) → List (DataW H) → Bool := fun _ ds => decide (uptoBulkAll ds ≤ 1048576)
def OpenSpec.upto (s : _root_.Go.ChangeSpec) : _root_.Go.OpenSpec := { _root_.Go.OpenSpec.ofChange s with cond := some uptoSmall }

/-- 'laws.FnPlans', WHERE WHAT IT READS IS OF BULK AT MOST 1048576: true; the input reads as it did. -/
def fnPlansUptoRow : OpenClaim := { program := "ytjifkonjjcpfkaa", sum := "11e5c71e3fa4400b355e9c2cc9d092e81e02a6ce1a5ecc9ce93ec28cc0162fed", func := "loop.example/g00200/laws.FnPlans", spec := "fnPlans", apart := false, narrowed := true }
def FnPlansUptoSaid : Prop := fnPlansUptoRow.holds Try.pinned (OpenSpec.upto fnPlansSpec)

/-- 'laws.FnHarmonics', WHERE WHAT IT READS IS OF BULK AT MOST 1048576: true; the input reads as it did. -/
def fnHarmonicsUptoRow : OpenClaim := { program := "ytjifkonjjcpfkaa", sum := "11e5c71e3fa4400b355e9c2cc9d092e81e02a6ce1a5ecc9ce93ec28cc0162fed", func := "loop.example/g00200/laws.FnHarmonics", spec := "fnHarmonics", leaving := true, apart := false, narrowed := true }
def FnHarmonicsUptoSaid : Prop := fnHarmonicsUptoRow.holds Try.pinned (OpenSpec.upto fnHarmonicsSpec)

/-- 'laws.FnExactPlanOk', WHERE WHAT IT READS IS OF BULK AT MOST 1048576: true; the input reads as it did. -/
def fnExactPlanOkUptoRow : OpenClaim := { program := "ytjifkonjjcpfkaa", sum := "11e5c71e3fa4400b355e9c2cc9d092e81e02a6ce1a5ecc9ce93ec28cc0162fed", func := "loop.example/g00200/laws.FnExactPlanOk", spec := "fnExactPlanOk", apart := false, narrowed := true }
def FnExactPlanOkUptoSaid : Prop := fnExactPlanOkUptoRow.holds Try.pinned (OpenSpec.upto fnExactPlanOkSpec)

/-- 'laws.FnExactWindowAt', WHERE WHAT IT READS IS OF BULK AT MOST 1048576: true; the input reads as it did. -/
def fnExactWindowAtUptoRow : OpenClaim := { program := "ytjifkonjjcpfkaa", sum := "11e5c71e3fa4400b355e9c2cc9d092e81e02a6ce1a5ecc9ce93ec28cc0162fed", func := "loop.example/g00200/laws.FnExactWindowAt", spec := "fnExactWindowAt", apart := false, narrowed := true }
def FnExactWindowAtUptoSaid : Prop := fnExactWindowAtUptoRow.holds Try.pinned (OpenSpec.upto fnExactWindowAtSpec)

/-- 'laws.FnExactTimeOf', WHERE WHAT IT READS IS OF BULK AT MOST 1048576: true; the input reads as it did. -/
def fnExactTimeOfUptoRow : OpenClaim := { program := "ytjifkonjjcpfkaa", sum := "11e5c71e3fa4400b355e9c2cc9d092e81e02a6ce1a5ecc9ce93ec28cc0162fed", func := "loop.example/g00200/laws.FnExactTimeOf", spec := "fnExactTimeOf", apart := false, narrowed := true }
def FnExactTimeOfUptoSaid : Prop := fnExactTimeOfUptoRow.holds Try.pinned (OpenSpec.upto fnExactTimeOfSpec)

/-- 'laws.FnExactHarmonic', WHERE WHAT IT READS IS OF BULK AT MOST 1048576: true; the input reads as it did. -/
def fnExactHarmonicUptoRow : OpenClaim := { program := "ytjifkonjjcpfkaa", sum := "11e5c71e3fa4400b355e9c2cc9d092e81e02a6ce1a5ecc9ce93ec28cc0162fed", func := "loop.example/g00200/laws.FnExactHarmonic", spec := "fnExactHarmonic", leaving := true, apart := false, narrowed := true }
def FnExactHarmonicUptoSaid : Prop := fnExactHarmonicUptoRow.holds Try.pinned (OpenSpec.upto fnExactHarmonicSpec)

end Rows
end Go.Proofs.Ytjifkonjjcpfkaa
