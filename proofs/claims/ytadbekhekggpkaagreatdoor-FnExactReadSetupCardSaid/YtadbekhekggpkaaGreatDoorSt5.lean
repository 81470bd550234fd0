/-
  A struct of five lists stored into a block: the world behind it as a letter.
-/
import Derived.Test.YtadbekhekggpkaaGreatDoorReadN
namespace Go.Proofs.YtadbekhekggpkaaGreatDoor
open Go.RowKit Go.PlainAid
set_option linter.unusedVariables false
set_option linter.unusedSimpArgs false

theorem tl_inj {a b : ByteArray} (h : a.toList = b.toList) : a = b := by
  rw [ByteArray.toList_eq, ByteArray.toList_eq] at h
  cases a; cases b
  congr 1
  exact Array.toList_inj.1 h
theorem tl_yes {a b : ByteArray} (h : a = b) : (a.toList == b.toList) = true := by
  subst h
  exact beq_self_eq_true _
theorem tl_no {a b : ByteArray} (h : a ≠ b) : (a.toList == b.toList) = false := by
  cases e : (a.toList == b.toList)
  · rfl
  · exact absurd (tl_inj (eq_of_beq e)) h
theorem store5_run {w : World} (g : Nat) {u0 u1 u2 u3 u4 : Value} {T : TypeId} (q0 q1 q2 q3 q4 : Option Addr) (n0 n1 n2 n3 n4 c0 c1 c2 c3 c4 : Nat) (hg : w.heap[g]? = some (.cells #[u0, u1, u2, u3, u4] T)) :
    (Instr.storeAt 30 (.pointer (some ⟨g, 0, none⟩)) (.agg #[.slice q0 n0 c0, .slice q1 n1 c1, .slice q2 n2 c2, .slice q3 n3 c3, .slice q4 n4 c4])).run Tryz.prog w = .ok () (((((w.setCell ⟨g, 0, none⟩ (.slice q0 n0 c0)).setCell ⟨g, 1, none⟩ (.slice q1 n1 c1)).setCell ⟨g, 2, none⟩ (.slice q2 n2 c2)).setCell ⟨g, 3, none⟩ (.slice q3 n3 c3)).setCell ⟨g, 4, none⟩ (.slice q4 n4 c4)) := by
  have kz := boxO_cells hg
  simp [go_sem, Instr.storeAt, kz]
theorem listStore5 {ops : Array Oper} {rest : List Oper} {o : Oper} {a : Act} {Q : Exit → Act → World → Prop} {w : World} (hgd : o.guard = none) (hd : o.dst = none) (x y : Operand) (ty : TypeId) (ho : o.op = .store ty x y) (hty : ty = 30)
    (g : Nat) (q0 q1 q2 q3 q4 : Option Addr) (n0 n1 n2 n3 n4 c0 c1 c2 c3 c4 : Nat) (hx : a.eval x = .pointer (some ⟨g, 0, none⟩)) (hy : a.eval y = .agg #[.slice q0 n0 c0, .slice q1 n1 c1, .slice q2 n2 c2, .slice q3 n3 c3, .slice q4 n4 c4])
    {u0 u1 u2 u3 u4 : Value} {T : TypeId} (hg : w.heap[g]? = some (.cells #[u0, u1, u2, u3, u4] T))
    (h : ∀ w', w' = (((((w.setCell ⟨g, 0, none⟩ (.slice q0 n0 c0)).setCell ⟨g, 1, none⟩ (.slice q1 n1 c1)).setCell ⟨g, 2, none⟩ (.slice q2 n2 c2)).setCell ⟨g, 3, none⟩ (.slice q3 n3 c3)).setCell ⟨g, 4, none⟩ (.slice q4 n4 c4)) → w'.heap[g]? = some (.cells #[.slice q0 n0 c0, .slice q1 n1 c1, .slice q2 n2 c2, .slice q3 n3 c3, .slice q4 n4 c4] T) → wpList Tryz.prog ops Q rest a w') : wpList Tryz.prog ops Q (o :: rest) a w := by
  subst hty
  refine wpList_plain hgd fun _ hK => ?_
  unfold Oper.wp
  simp only [execOp, ho, hx, hy, Sem.run_bind, store5_run g q0 q1 q2 q3 q4 n0 n1 n2 n3 n4 c0 c1 c2 c3 c4 hg, Result.andThen, Sem.run_pure]
  exact hK _ _ (by rw [hd]; exact h _ rfl (set_row5 (set_row5 (set_row5 (set_row5 (set_row5 hg 0 _) 1 _) 2 _) 3 _) 4 _))
end Go.Proofs.YtadbekhekggpkaaGreatDoor
