/-
  No cell of these rows narrows 'for every input' (looked for: loops, veiled, ifaces, maps, wideKeys, modest, calm, conditions, laid).
  DERIVED. THE GIVEN ROWS OF THIS SEAT. 7 by the template 'for every input the law returns true; each argument reads behind the call as it read before'; 0 by the template 'total and deterministic' (their statements: YtjaimcmnndejgaaTotals.lean).
  GIVEN WITH THE SEED: the statements are not yours to turn. If you find one false, say at which input.
  Laid BY PROGRAM, IN A SANDBOX (cutbox-rows.mjs): the forced cells as the released guide's own fill.sh prints them over the translation 96083874b63e8719… (all of the seat's roots in one cut). By AI agents, Wed Nov 11 2026. No macro, syntax, notation, axiom, sorry.
-/
import Derived.Test.YtjaimcmnndejgaaChecked
import GoSem.Claim
import GoSem.ClaimJoined
import GoSem.ClaimMapViews
import Derived.JoinedTies
import Derived.KernelRfl
namespace Go.Proofs.Ytjaimcmnndejgaa
/- THE CELL 'sum', in the pinned program and in every row, IS THE sha256 OF THE DUMP (.gsa) THAT YtjaimcmnndejgaaProg.lean LOADS. Nothing in Lean hashes anything: it is a label: what it is worth is what the hold of that sum in a sandbox is worth. -/
noncomputable def Try.pinned : Pinned := { name := "ytjaimcmnndejgaa", sum := "96083874b63e8719370fbce383bb8c1ca62e846251a9789635e37d69fb8a18bb", checked := Try.checked }
namespace Rows
def none {H : Type} : Left H := { results := [], args := [] }

/-- 'laws.FnMenus': WHATEVER THE INPUT: true; the input reads as it did. -/
def fnMenusSpec : ChangeSpec := { name := "fnMenus", fn := fun _ => fun
  | [d] => { results := [.lit (.bool true)], args := [d] }
  | _ => none }
def fnMenusRow : OpenClaim := { program := "ytjaimcmnndejgaa", sum := "96083874b63e8719370fbce383bb8c1ca62e846251a9789635e37d69fb8a18bb", func := "loop.example/g00200/laws.FnMenus", spec := "fnMenus", apart := false }
def FnMenusSaid : Prop := fnMenusRow.holds Try.pinned (OpenSpec.ofChange fnMenusSpec)

/-- ITS FALSE NEIGHBOUR: 'it returns false'. Refute it at one input. -/
def fnMenusWrong : ChangeSpec := { name := "fnMenus", fn := fun _ => fun
  | [d] => { results := [.lit (.bool false)], args := [d] }
  | _ => none }
def FnMenusWrongFalsely : Prop := fnMenusRow.holds Try.pinned (OpenSpec.ofChange fnMenusWrong)

/-- 'laws.FnTyped': WHATEVER THE INPUT: true; the input reads as it did. -/
def fnTypedSpec : ChangeSpec := { name := "fnTyped", fn := fun _ => fun
  | [d] => { results := [.lit (.bool true)], args := [d] }
  | _ => none }
def fnTypedRow : OpenClaim := { program := "ytjaimcmnndejgaa", sum := "96083874b63e8719370fbce383bb8c1ca62e846251a9789635e37d69fb8a18bb", func := "loop.example/g00200/laws.FnTyped", spec := "fnTyped", apart := false }
def FnTypedSaid : Prop := fnTypedRow.holds Try.pinned (OpenSpec.ofChange fnTypedSpec)

/-- ITS FALSE NEIGHBOUR: 'it returns false'. Refute it at one input. -/
def fnTypedWrong : ChangeSpec := { name := "fnTyped", fn := fun _ => fun
  | [d] => { results := [.lit (.bool false)], args := [d] }
  | _ => none }
def FnTypedWrongFalsely : Prop := fnTypedRow.holds Try.pinned (OpenSpec.ofChange fnTypedWrong)

/-- 'laws.FnKeysOf': WHATEVER THE INPUT: true; the input reads as it did. -/
def fnKeysOfSpec : ChangeSpec := { name := "fnKeysOf", fn := fun _ => fun
  | [d] => { results := [.lit (.bool true)], args := [d] }
  | _ => none }
def fnKeysOfRow : OpenClaim := { program := "ytjaimcmnndejgaa", sum := "96083874b63e8719370fbce383bb8c1ca62e846251a9789635e37d69fb8a18bb", func := "loop.example/g00200/laws.FnKeysOf", spec := "fnKeysOf", apart := false }
def FnKeysOfSaid : Prop := fnKeysOfRow.holds Try.pinned (OpenSpec.ofChange fnKeysOfSpec)

/-- ITS FALSE NEIGHBOUR: 'it returns false'. Refute it at one input. -/
def fnKeysOfWrong : ChangeSpec := { name := "fnKeysOf", fn := fun _ => fun
  | [d] => { results := [.lit (.bool false)], args := [d] }
  | _ => none }
def FnKeysOfWrongFalsely : Prop := fnKeysOfRow.holds Try.pinned (OpenSpec.ofChange fnKeysOfWrong)

/-- 'laws.FnExactMenuNew': WHATEVER THE INPUT: true; the input reads as it did. -/
def fnExactMenuNewSpec : ChangeSpec := { name := "fnExactMenuNew", fn := fun _ => fun
  | [] => { results := [.lit (.bool true)], args := [] }
  | _ => none }
def fnExactMenuNewRow : OpenClaim := { program := "ytjaimcmnndejgaa", sum := "96083874b63e8719370fbce383bb8c1ca62e846251a9789635e37d69fb8a18bb", func := "loop.example/g00200/laws.FnExactMenuNew", spec := "fnExactMenuNew", apart := false }
def FnExactMenuNewSaid : Prop := fnExactMenuNewRow.holds Try.pinned (OpenSpec.ofChange fnExactMenuNewSpec)

/-- ITS FALSE NEIGHBOUR: 'it returns false'. Refute it at one input. -/
def fnExactMenuNewWrong : ChangeSpec := { name := "fnExactMenuNew", fn := fun _ => fun
  | [] => { results := [.lit (.bool false)], args := [] }
  | _ => none }
def FnExactMenuNewWrongFalsely : Prop := fnExactMenuNewRow.holds Try.pinned (OpenSpec.ofChange fnExactMenuNewWrong)

/-- 'laws.FnExactMenuOk': WHATEVER THE INPUT: true; the input reads as it did. -/
def fnExactMenuOkSpec : ChangeSpec := { name := "fnExactMenuOk", fn := fun _ => fun
  | [d] => { results := [.lit (.bool true)], args := [d] }
  | _ => none }
def fnExactMenuOkRow : OpenClaim := { program := "ytjaimcmnndejgaa", sum := "96083874b63e8719370fbce383bb8c1ca62e846251a9789635e37d69fb8a18bb", func := "loop.example/g00200/laws.FnExactMenuOk", spec := "fnExactMenuOk", apart := false }
def FnExactMenuOkSaid : Prop := fnExactMenuOkRow.holds Try.pinned (OpenSpec.ofChange fnExactMenuOkSpec)

/-- ITS FALSE NEIGHBOUR: 'it returns false'. Refute it at one input. -/
def fnExactMenuOkWrong : ChangeSpec := { name := "fnExactMenuOk", fn := fun _ => fun
  | [d] => { results := [.lit (.bool false)], args := [d] }
  | _ => none }
def FnExactMenuOkWrongFalsely : Prop := fnExactMenuOkRow.holds Try.pinned (OpenSpec.ofChange fnExactMenuOkWrong)

/-- 'laws.FnExactPress': WHATEVER THE INPUT: true; the input reads as it did. -/
def fnExactPressSpec : ChangeSpec := { name := "fnExactPress", fn := fun _ => fun
  | [d1, d2] => { results := [.lit (.bool true)], args := [d1, d2] }
  | _ => none }
def fnExactPressRow : OpenClaim := { program := "ytjaimcmnndejgaa", sum := "96083874b63e8719370fbce383bb8c1ca62e846251a9789635e37d69fb8a18bb", func := "loop.example/g00200/laws.FnExactPress", spec := "fnExactPress", apart := false }
def FnExactPressSaid : Prop := fnExactPressRow.holds Try.pinned (OpenSpec.ofChange fnExactPressSpec)

/-- ITS FALSE NEIGHBOUR: 'it returns false'. Refute it at one input. -/
def fnExactPressWrong : ChangeSpec := { name := "fnExactPress", fn := fun _ => fun
  | [d1, d2] => { results := [.lit (.bool false)], args := [d1, d2] }
  | _ => none }
def FnExactPressWrongFalsely : Prop := fnExactPressRow.holds Try.pinned (OpenSpec.ofChange fnExactPressWrong)

/-- 'laws.FnExactPressAll': WHATEVER THE INPUT: true; the input reads as it did. -/
def fnExactPressAllSpec : ChangeSpec := { name := "fnExactPressAll", fn := fun _ => fun
  | [d1, d2] => { results := [.lit (.bool true)], args := [d1, d2] }
  | _ => none }
def fnExactPressAllRow : OpenClaim := { program := "ytjaimcmnndejgaa", sum := "96083874b63e8719370fbce383bb8c1ca62e846251a9789635e37d69fb8a18bb", func := "loop.example/g00200/laws.FnExactPressAll", spec := "fnExactPressAll", apart := false }
def FnExactPressAllSaid : Prop := fnExactPressAllRow.holds Try.pinned (OpenSpec.ofChange fnExactPressAllSpec)

/-- ITS FALSE NEIGHBOUR: 'it returns false'. Refute it at one input. -/
def fnExactPressAllWrong : ChangeSpec := { name := "fnExactPressAll", fn := fun _ => fun
  | [d1, d2] => { results := [.lit (.bool false)], args := [d1, d2] }
  | _ => none }
def FnExactPressAllWrongFalsely : Prop := fnExactPressAllRow.holds Try.pinned (OpenSpec.ofChange fnExactPressAllWrong)

/- THE SECOND FORM. 'bulk': how many values and letters a reading holds, each counted each time it is reached (what is shared counts as often as it is met; a slice's spare places count too). A statement '..UptoSaid' is the law's where the arguments, and the package variables that the reading takes, are together of bulk at most 1048576: NARROWER than '..Said'. Prove '..Said' where nothing that the law and all that it calls make is longer than what came in: it says more and counts as full. Else prove '..UptoSaid'. A law counts once. -/
mutual
def uptoBulk {H : Type} : DataW H → Nat
  | .lit (.string bytes) => bytes.length + 1
  | .lit _ => 1
  | .nil => 1
  | .ptr d => uptoBulk d + 1
  | .slice elems spare => uptoBulkAll elems + uptoBulkAll spare + 1
  | .agg parts => uptoBulkAll parts + 1
  | .iface _ d => uptoBulk d + 1
  | .map entries => uptoBulkEntries entries + 1
  | .held _ => 1
def uptoBulkAll {H : Type} : List (DataW H) → Nat
  | [] => 0
  | d :: r => uptoBulk d + uptoBulkAll r
def uptoBulkEntries {H : Type} : List (Lit × DataW H) → Nat
  | [] => 0
  | x :: r => uptoBulkEntry x + uptoBulkEntries r
def uptoBulkEntry {H : Type} : Lit × DataW H → Nat
  | (.string bytes, d) => bytes.length + uptoBulk d + 1
  | (_, d) => uptoBulk d + 1
 end
def uptoSmall : (H : Type) → List (DataW H) → Bool := fun _ ds => decide (uptoBulkAll ds ≤ 1048576)
def OpenSpec.upto (s : _root_.Go.ChangeSpec) : _root_.Go.OpenSpec := { _root_.Go.OpenSpec.ofChange s with cond := some uptoSmall }

/-- 'laws.FnMenus', WHERE WHAT IT READS IS OF BULK AT MOST 1048576: true; the input reads as it did. -/
def fnMenusUptoRow : OpenClaim := { program := "ytjaimcmnndejgaa", sum := "96083874b63e8719370fbce383bb8c1ca62e846251a9789635e37d69fb8a18bb", func := "loop.example/g00200/laws.FnMenus", spec := "fnMenus", apart := false, narrowed := true }
def FnMenusUptoSaid : Prop := fnMenusUptoRow.holds Try.pinned (OpenSpec.upto fnMenusSpec)

/-- 'laws.FnTyped', WHERE WHAT IT READS IS OF BULK AT MOST 1048576: true; the input reads as it did. -/
def fnTypedUptoRow : OpenClaim := { program := "ytjaimcmnndejgaa", sum := "96083874b63e8719370fbce383bb8c1ca62e846251a9789635e37d69fb8a18bb", func := "loop.example/g00200/laws.FnTyped", spec := "fnTyped", apart := false, narrowed := true }
def FnTypedUptoSaid : Prop := fnTypedUptoRow.holds Try.pinned (OpenSpec.upto fnTypedSpec)

/-- 'laws.FnKeysOf', WHERE WHAT IT READS IS OF BULK AT MOST 1048576: true; the input reads as it did. -/
def fnKeysOfUptoRow : OpenClaim := { program := "ytjaimcmnndejgaa", sum := "96083874b63e8719370fbce383bb8c1ca62e846251a9789635e37d69fb8a18bb", func := "loop.example/g00200/laws.FnKeysOf", spec := "fnKeysOf", apart := false, narrowed := true }
def FnKeysOfUptoSaid : Prop := fnKeysOfUptoRow.holds Try.pinned (OpenSpec.upto fnKeysOfSpec)

/-- 'laws.FnExactMenuNew', WHERE WHAT IT READS IS OF BULK AT MOST 1048576: true; the input reads as it did. -/
def fnExactMenuNewUptoRow : OpenClaim := { program := "ytjaimcmnndejgaa", sum := "96083874b63e8719370fbce383bb8c1ca62e846251a9789635e37d69fb8a18bb", func := "loop.example/g00200/laws.FnExactMenuNew", spec := "fnExactMenuNew", apart := false, narrowed := true }
def FnExactMenuNewUptoSaid : Prop := fnExactMenuNewUptoRow.holds Try.pinned (OpenSpec.upto fnExactMenuNewSpec)

/-- 'laws.FnExactMenuOk', WHERE WHAT IT READS IS OF BULK AT MOST 1048576: true; the input reads as it did. -/
def fnExactMenuOkUptoRow : OpenClaim := { program := "ytjaimcmnndejgaa", sum := "96083874b63e8719370fbce383bb8c1ca62e846251a9789635e37d69fb8a18bb", func := "loop.example/g00200/laws.FnExactMenuOk", spec := "fnExactMenuOk", apart := false, narrowed := true }
def FnExactMenuOkUptoSaid : Prop := fnExactMenuOkUptoRow.holds Try.pinned (OpenSpec.upto fnExactMenuOkSpec)

/-- 'laws.FnExactPress', WHERE WHAT IT READS IS OF BULK AT MOST 1048576: true; the input reads as it did. -/
def fnExactPressUptoRow : OpenClaim := { program := "ytjaimcmnndejgaa", sum := "96083874b63e8719370fbce383bb8c1ca62e846251a9789635e37d69fb8a18bb", func := "loop.example/g00200/laws.FnExactPress", spec := "fnExactPress", apart := false, narrowed := true }
def FnExactPressUptoSaid : Prop := fnExactPressUptoRow.holds Try.pinned (OpenSpec.upto fnExactPressSpec)

/-- 'laws.FnExactPressAll', WHERE WHAT IT READS IS OF BULK AT MOST 1048576: true; the input reads as it did. -/
def fnExactPressAllUptoRow : OpenClaim := { program := "ytjaimcmnndejgaa", sum := "96083874b63e8719370fbce383bb8c1ca62e846251a9789635e37d69fb8a18bb", func := "loop.example/g00200/laws.FnExactPressAll", spec := "fnExactPressAll", apart := false, narrowed := true }
def FnExactPressAllUptoSaid : Prop := fnExactPressAllUptoRow.holds Try.pinned (OpenSpec.upto fnExactPressAllSpec)

end Rows
end Go.Proofs.Ytjaimcmnndejgaa
