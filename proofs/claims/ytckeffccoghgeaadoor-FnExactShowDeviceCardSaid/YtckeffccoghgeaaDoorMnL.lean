/-
  Menus of the specification: PressAll.
-/
import Derived.Test.YtckeffccoghgeaaDoorMnP
import Derived.Test.YtckeffccoghgeaaDoorOrl
import Derived.Deep.CutRange
namespace Go.Proofs.YtckeffccoghgeaaDoor
open Go.RowKit Go.PlainAid
set_option linter.unusedVariables false
set_option linter.unusedSimpArgs false

theorem ky5 {w w' : World} {Y : Nat} {x0 x1 x2 x3 x4 : Value} {T : TypeId} (h : w'.heap[Y]? = some (.cells #[x0, x1, x2, x3, x4] T)) (hb : Below w.heap.size w w') : w'.cell? ⟨Y, 0, none⟩ = some x0 ∧ w'.cell? ⟨Y, 1, none⟩ = some x1 ∧ w'.cell? ⟨Y, 2, none⟩ = some x2 ∧ w'.cell? ⟨Y, 3, none⟩ = some x3 ∧ w'.cell? ⟨Y, 4, none⟩ = some x4 ∧ Below w.heap.size w w' := by
  have k := box5_cells h
  exact ⟨k.1.1, k.1.2.1, k.1.2.2.1, k.1.2.2.2.1, k.1.2.2.2.2, hb⟩
/-- what stands while keys are pressed: the menu, the answer's place, the orders -/
structure PA (w w' : World) (M : Mn) (g n c : Nat) (l : List Od4) : Prop where
  p : w'.heap[w.heap.size]? = some (.cells #[.int .i64 M.a, .bool M.b, .int .i64 M.n, .int .i64 M.d, .string ⟨M.s.toArray⟩] 40)
  z : w'.heap[w.heap.size + 1]? = some (.cells #[.int .i64 0, .bool false, .int .i64 0, .int .i64 0, .string ⟨#[]⟩] 40)
  o : OwnE w' (w.heap.size + 2) g n c l
  b : Below w.heap.size w w'
theorem PA.on {w w' w2 : World} {M : Mn} {g n c : Nat} {l : List Od4} (h : PA w w' M g n c l) (hb : Below w'.heap.size w' w2) : PA w w2 M g n c l :=
  ⟨row_on h.p hb, row_on h.z hb, h.o.on hb, bel_on (Nat.le_refl _) h.b hb⟩
theorem PA.drew {w w' : World} {M : Mn} {g n c : Nat} {l : List Od4} (h : PA w w' M g n c l) : PA w w'.drew M g n c l := ⟨h.p, h.z, h.o, h.b.drew⟩
theorem PA.put {w w' w2 : World} {M : Mn} {g n c k : Nat} {l : List Od4} {ob : Obj} (h : PA w w' M g n c l) (hp : PutM w' w2 k ob) (hk : w.heap.size + 1 < k) (hg : g ≠ k) : PA w w2 M g n c l :=
  ⟨hp.far h.p (by omega), hp.far h.z (by omega), h.o.put hp hg, hp.2.2.2 _ _ (by omega) h.b⟩
theorem PA.grown {w w' w2 : World} {M : Mn} {g n c g' n' c' : Nat} {l l' : List Od4} (h : PA w w' M g n c l) (hg : w'.grownBy w2 (some g)) (ho : OwnE w2 (w.heap.size + 2) g' n' c' l') : PA w w2 M g' n' c' l' := by
  have hge := h.o.ge
  have b : ∀ m o, w'.heap[m]? = some o → m ≠ g → w2.heap[m]? = some o := fun m o hm hne => (hg.block m (row_lt hm) (fun e => hne (Option.some.inj e))).trans hm
  exact ⟨b _ _ h.p (by omega), b _ _ h.z (by omega), ho, h.b.grown hg h.b.size (fun m hm => by cases hm; omega)⟩
theorem xy_ne {v : World} {X Y : Nat} {x0 x1 x2 x3 x4 y0 y1 y2 y3 : Value} {T U : TypeId} (h : v.heap[X]? = some (.cells #[x0, x1, x2, x3, x4] T)) (h2 : v.heap[Y]? = some (.cells #[y0, y1, y2, y3] U)) : X ≠ Y := by
  rintro rfl
  rw [h] at h2
  simp at h2
theorem PA.conj {w w' : World} {M : Mn} {g n c : Nat} {l : List Od4} (h : PA w w' M g n c l) : (fun w' => w'.cell? ⟨w.heap.size, 0, none⟩ = some (.int .i64 M.a) ∧ w'.cell? ⟨w.heap.size, 1, none⟩ = some (.bool M.b) ∧ w'.cell? ⟨w.heap.size, 2, none⟩ = some (.int .i64 M.n) ∧ w'.cell? ⟨w.heap.size, 3, none⟩ = some (.int .i64 M.d) ∧ w'.cell? ⟨w.heap.size, 4, none⟩ = some (.string ⟨M.s.toArray⟩) ∧ Below w.heap.size w w') w' := ky5 h.p h.b
theorem PA.lt {w w' : World} {M : Mn} {g n c : Nat} {l : List Od4} (h : PA w w' M g n c l) : w.heap.size + 1 < w'.heap.size ∧ g < w'.heap.size ∧ w.heap.size + 2 ≤ g := ⟨row_lt h.z, h.o.lt, h.o.ge⟩
theorem ownE_empty' (w : World) (B k : Nat) (hk : w.heap.size = k) (hB : B ≤ k) : OwnE (w.alloc (.cells #[] 139)) B k 0 0 [] := by subst hk; exact ownE_empty w B hB
end Go.Proofs.YtckeffccoghgeaaDoor
