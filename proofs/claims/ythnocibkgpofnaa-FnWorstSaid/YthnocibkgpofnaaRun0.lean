/-
  The table of instructions.
-/
import Derived.Test.YthnocibkgpofnaaStep4
import Derived.Laws.EntriesVeiled
import Derived.Deep.WholeRow
namespace Go.Proofs.Ythnocibkgpofnaa
open Go.RowKit Go.PlainAid
set_option linter.unusedVariables false
def tab : Array Value := #[.func (.func 82) #[] #[], .func (.func 83) #[] #[], .func (.func 84) #[] #[], .func (.func 85) #[] #[], .func (.func 86) #[] #[], .func (.func 87) #[] #[], .func (.func 88) #[] #[], .func (.func 89) #[] #[], .func (.func 90) #[] #[], .func (.func 91) #[] #[], .func (.func 92) #[] #[], .func (.func 93) #[] #[], .func (.func 82) #[] #[], .func (.func 94) #[] #[], .func (.func 94) #[] #[], .func (.func 94) #[] #[], .func (.func 94) #[] #[], .func (.func 95) #[] #[]]
def nils : Array Value := #[.nilFunc, .nilFunc, .nilFunc, .nilFunc, .nilFunc, .nilFunc, .nilFunc, .nilFunc, .nilFunc, .nilFunc, .nilFunc, .nilFunc, .nilFunc, .nilFunc, .nilFunc, .nilFunc, .nilFunc, .nilFunc]
theorem tab_all : tab.all (·.oneCell') = true := by simp [tab, Value.oneCell']
theorem infoT : (Try.prog.info? 109).map (·.size) = some tab.size := by kernel_rfl
theorem zeroT (w : World) : (zeroValue 109).run Try.prog w = .ok (.agg nils) w := (zero_of_info (P := Try.prog) (t := 109) (v := .agg nils) (n := 18) (by kernel_rfl)).1 w
theorem storeT (w : World) : (storeCells ⟨w.heap.size, 0, none⟩ tab.toList 0).run Try.prog (w.alloc (.cells nils 109)) = .ok () (w.alloc (.cells tab 109)) := run_storeCells_new (P := Try.prog) w 109 nils tab infoT rfl tab_all
theorem storeAtT (w : World) : (Instr.storeAt 109 (.pointer (some ⟨w.heap.size, 0, none⟩)) (.agg tab)).run Try.prog (w.alloc (.cells nils 109)) = .ok () (w.alloc (.cells tab 109)) := run_storeAt_new (P := Try.prog) w 109 nils tab infoT rfl tab_all
/-- the table is stored whole -/
theorem listStoreT {ops : Array Oper} {rest : List Oper} {o : Oper} {a : Act} {Q : Exit → Act → World → Prop} {W : World} (hgd : o.guard = none) (hd : o.dst = none) (p v : Operand)
    (ho : o.op = .store 109 p v) (hp : a.eval p = .pointer (some ⟨W.heap.size, 0, none⟩)) (hv : a.eval v = .agg tab)
    (h : wpList Try.prog ops Q rest (a.put none undef) (W.alloc (.cells tab 109))) : wpList Try.prog ops Q (o :: rest) a (W.alloc (.cells nils 109)) := by
  refine wpList_plain hgd fun K hK => ?_
  unfold Oper.wp
  simp [execOp, ho, hp, hv, storeAtT W, Result.andThen]
  exact hK _ _ (by rw [hd]; exact h)
set_option maxRecDepth 100000 in
set_option maxHeartbeats 1000000 in
theorem instrI (w : World) : Calls Try.prog 78 #[] w fun e w' => e = .returned (.agg tab) ∧ Below w.heap.size w w' := by
  have hlt := run_loadVar_new (P := Try.prog) w 109 tab 18 _ Try.underlying109 infoT
  go_enter Try.func78, Try.ntmps78
  go_wp2_with (refine listStoreT rfl rfl _ _ rfl rfl rfl ?_)
  refine bodyPost_ret (v := .agg tab) (by simp [results, Try.results78, asAddr, Act.put, hlt]) rfl ⟨rfl, (Below.refl _ _).alloc (Nat.le_refl _) _⟩
end Go.Proofs.Ythnocibkgpofnaa
