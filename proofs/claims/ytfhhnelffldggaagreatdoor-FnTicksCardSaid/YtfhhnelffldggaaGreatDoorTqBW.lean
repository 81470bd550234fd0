/-
  RunDevice, of the specification, for right inputs.
-/
import Derived.Test.YtfhhnelffldggaaGreatDoorTqBV
import Derived.Test.YtfhhnelffldggaaGreatDoorTqBN
import Derived.Test.YtfhhnelffldggaaGreatDoorTqAI
import Derived.Test.YtfhhnelffldggaaGreatDoorTqBF
import Derived.Test.YtfhhnelffldggaaGreatDoorTqBK
import Derived.Test.YtfhhnelffldggaaGreatDoorTqAW
namespace Go.Proofs.YtfhhnelffldggaaGreatDoor
open Go.RowKit Go.PlainAid
set_option linter.unusedVariables false
set_option linter.unusedSimpArgs false
def SRn (g off j : Nat) (b : Int) (K L : ByteArray) (W : World) : Prop := W.cell? ⟨g, off + j * 3, none⟩ = some (.int .i64 b) ∧ W.cell? ⟨g, off + j * 3 + 1, none⟩ = some (.string K) ∧ W.cell? ⟨g, off + j * 3 + 2, none⟩ = some (.string L)
theorem SRn.on {g off j : Nat} {b : Int} {K L : ByteArray} {W W' : World} (h : SRn g off j b K L W) (hb : Below W.heap.size W W') : SRn g off j b K L W' := by
  have hg := World.block_lt_of_cell? W ⟨g, off + j * 3, none⟩ h.1
  exact ⟨(hb.cell (p := ⟨g, off + j * 3, none⟩) hg).trans h.1, (hb.cell (p := ⟨g, off + j * 3 + 1, none⟩) hg).trans h.2.1, (hb.cell (p := ⟨g, off + j * 3 + 2, none⟩) hg).trans h.2.2⟩
theorem SRn.same {g off j : Nat} {b : Int} {K L : ByteArray} {W W' : World} (h : SRn g off j b K L W) (hb : W'.heap[g]? = W.heap[g]?) : SRn g off j b K L W' := by
  unfold SRn World.cell? at *
  dsimp only at *
  rw [hb]
  exact h
theorem loadR_any {ops : Array Oper} {o : Oper} {a : Act} {K : Act → World → Prop} {Q : Exit → Act → World → Prop} {E : Prop} {w : World} (hw : Region.wanted o (yielded ops a.tmps) = true) (ty : TypeId) (x : Operand) (ho : o.op = .load ty x)
    (g : Nat) (hx : a.eval x = .pointer (some ⟨g, 0, none⟩)) (t : TypeId) (cs : Array Value) (fr : Nat × Nat) (d : TypeDesc) (hg : w.heap[g]? = some (.cells cs t fr))
    (hu : Tryz.prog.underlying ty = some d) (hd : (match d with | .struct _ | .array _ _ => true | _ => false) = true) (hi : (Tryz.prog.info? ty).map (·.size) = some cs.size)
    (h : K (a.put o.dst (.agg cs)) w) : if Region.wanted o (yielded ops a.tmps) = true then Oper.wp Tryz.prog o a w K Q else E := by
  rw [if_pos hw]
  exact wp_load_row ty x ho g hx t cs fr d hg hu (by cases d <;> first | rfl | (cases hd)) hi h
end Go.Proofs.YtfhhnelffldggaaGreatDoor
