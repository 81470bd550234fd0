/-
  Menus of the program: MenuNew, copyOfMenu, isFigure, areFigures, MenuOk, numberOf.
-/
import Derived.Test.YtckeffccoghgeaaDoorMnP
import Derived.Test.YtckeffccoghgeaaDoorMnL
import Derived.Test.YtckeffccoghgeaaDoorOrdK
import Derived.Test.YtckeffccoghgeaaDoorRunM
import Derived.Test.YtckeffccoghgeaaDoorShelf
import Derived.Lib.OthersKept
import Derived.Deep.CutRange
namespace Go.Proofs.YtckeffccoghgeaaDoor
open Go.RowKit Go.PlainAid
set_option linter.unusedVariables false
set_option linter.unusedSimpArgs false

set_option maxRecDepth 100000 in
set_option maxHeartbeats 1000000 in
theorem menunewI (w : World) : Calls Tryd.prog 57 #[] w fun e w' => e = .returned (mnV newM) ∧ Below w.heap.size w w' := by
  go_enter Tryd.func57, Tryd.ntmps57
  go_wp2
  refine bodyPost_ret (v := mnV newM) (by simp [results, Tryd.results57, go_sem, mnV, newM]) rfl ⟨rfl, ?_⟩
  first | exact alM _ _ | (repeat' (first | exact alM _ _ | refine Below.setCell ?_ (Nat.le_refl _) _))
theorem box2m (w : World) (o p : Obj) : ((w.alloc o).alloc p).heap[w.heap.size]? = some o ∧ ((w.alloc o).alloc p).heap[w.heap.size + 1]? = some p ∧ Below w.heap.size w ((w.alloc o).alloc p) := by
  have h0 := heap_new w o
  have h1 := heap_new (w.alloc o) p
  exact ⟨row_on h0 (alM _ _), by simpa using h1, bel_on (Nat.le_refl _) (alM _ _) (alM _ _)⟩
set_option maxRecDepth 100000 in
set_option maxHeartbeats 1000000 in
theorem figI (z : Int) (B : Bool) (hB : decide (48 ≤ z ∧ z ≤ 57) = B) (w : World) : Calls Tryd.prog 64 #[.int .i32 z] w fun e w' => e = .returned (.bool B) ∧ w' = w := by
  subst hB
  go_enter Tryd.func64, Tryd.ntmps64
  by_cases h1 : 48 ≤ z
  · by_cases h2 : z ≤ 57
    · rw [show decide (48 ≤ z ∧ z ≤ 57) = true from decide_eq_true ⟨h1, h2⟩]
      go_wp2
      go_ret
      exact ⟨rfl, rfl⟩
    · rw [show decide (48 ≤ z ∧ z ≤ 57) = false from decide_eq_false (fun h => h2 h.2)]
      go_wp2
      go_ret
      exact ⟨rfl, rfl⟩
  · rw [show decide (48 ≤ z ∧ z ≤ 57) = false from decide_eq_false (fun h => h1 h.1)]
    go_wp2
    go_ret
    exact ⟨rfl, rfl⟩
end Go.Proofs.YtckeffccoghgeaaDoor
