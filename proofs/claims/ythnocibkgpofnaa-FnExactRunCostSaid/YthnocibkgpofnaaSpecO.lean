/-
  The specification's step: copies of cells; what a trap's return holds while its region draws.
-/
import Derived.Test.YthnocibkgpofnaaSpecN
namespace Go.Proofs.Ythnocibkgpofnaa
open Go.RowKit Go.PlainAid
set_option linter.unusedVariables false
set_option maxRecDepth 100000 in
set_option maxHeartbeats 1000000 in
theorem copySN (q : Option Addr) (l : List Int) (n cap : Nat) (hl : l.length = n) (hn : n ≤ 1048576) (hq : q = none → n = 0 ∧ cap = 0) (w : World) (hr : Rd w q l) :
    Calls Try.prog 54 #[.agg #[.slice q n cap]] w fun e w' => ∃ g c, e = .returned (.agg #[.slice (some ⟨g, 0, none⟩) n c]) ∧ OwnN w' (w.heap.size + 2) g n c l ∧ Below w.heap.size w w' := by
  have HRd : Hid (Rd w q l) := hr
  have HL : Hid (l.length = n) := hl
  have HQ : Hid (q = none → n = 0 ∧ cap = 0) := hq
  have HB3 : Hid (Below w.heap.size w (((w.alloc (.cells #[.slice q n cap] 34)).alloc (.cells #[.slice none 0 0] 34)).alloc (.cells #[] 3))) := al3_b w _ _ _
  have HZ3 : Hid ((((w.alloc (.cells #[.slice q n cap] 34)).alloc (.cells #[.slice none 0 0] 34)).alloc (.cells #[] 3)).heap[w.heap.size + 1]? = some (.cells #[.slice none 0 0] 34)) := al3_2 w _ _ _
  have HO3 : Hid (OwnN (((w.alloc (.cells #[.slice q n cap] 34)).alloc (.cells #[.slice none 0 0] 34)).alloc (.cells #[] 3)) (w.heap.size + 2) (w.heap.size + 1 + 1) 0 0 []) := own_new' _ _ _ (by simp) (by simp)
  clear hr hl hq
  go_enter Try.func54, Try.ntmps54
  go_wp2_with (at_builtin; refine listN rfl _ _ rfl (w.heap.size + 2) (w.heap.size + 1 + 1) 0 0 [] q n cap l rfl rfl HO3.out HL.out HQ.out (HRd.out.keep HB3.out (Nat.le_refl _)) (by omega) (by simp) ?_)
  intro g c w5 hown hgrow hat
  have HZ : Hid (_ = _) := grown_row hgrow HZ3.out (fun e => by have := Option.some.inj e; omega)
  have HW : Hid (Below w.heap.size w w5) := HB3.out.grown hgrow HB3.out.size (fun k hk => by cases hk; omega)
  have HO : Hid (OwnN w5 (w.heap.size + 2) g n c l) := hown
  have kz := row1_cells HZ.out
  have hge := HO.out.ge
  clear hown hgrow hat HB3 HZ3 HO3
  go_wp2
  refine bodyPost_ret (v := .agg #[.slice (some ⟨g, 0, none⟩) n c]) (by simp [results, Try.results54, go_sem, kz]) rfl ⟨g, c, rfl, HO.out.set (by omega), HW.out.setCell (by simp) _⟩

theorem t3_on {w W W' : World} {k : Nat} {x y z : Value} (hb : Below W.heap.size W W') (h : W.cell? ⟨k, 0, none⟩ = some x ∧ W.cell? ⟨k, 1, none⟩ = some y ∧ W.cell? ⟨w.heap.size + 1, 0, none⟩ = some z ∧ Below w.heap.size w W) :
    W'.cell? ⟨k, 0, none⟩ = some x ∧ W'.cell? ⟨k, 1, none⟩ = some y ∧ W'.cell? ⟨w.heap.size + 1, 0, none⟩ = some z ∧ Below w.heap.size w W' :=
  ⟨cell_on h.1 hb, cell_on h.2.1 hb, cell_on h.2.2.1 hb, bel_on (Nat.le_refl _) h.2.2.2 hb⟩
theorem t3_set {w W : World} {x y z u : Value} {k p i : Nat} (hp : w.heap.size + 3 ≤ p) (hk : k ≠ p) (h : W.cell? ⟨k, 0, none⟩ = some x ∧ W.cell? ⟨k, 1, none⟩ = some y ∧ W.cell? ⟨w.heap.size + 1, 0, none⟩ = some z ∧ Below w.heap.size w W) :
    (W.setCell ⟨p, i, none⟩ u).cell? ⟨k, 0, none⟩ = some x ∧ (W.setCell ⟨p, i, none⟩ u).cell? ⟨k, 1, none⟩ = some y ∧ (W.setCell ⟨p, i, none⟩ u).cell? ⟨w.heap.size + 1, 0, none⟩ = some z ∧ Below w.heap.size w (W.setCell ⟨p, i, none⟩ u) :=
  ⟨cell_set h.1 hk, cell_set h.2.1 hk, cell_set h.2.2.1 (by omega), h.2.2.2.setCell (by show w.heap.size ≤ p; omega) _⟩
theorem t3_bel {w W : World} {k : Nat} {x y z : Value} (h : W.cell? ⟨k, 0, none⟩ = some x ∧ W.cell? ⟨k, 1, none⟩ = some y ∧ W.cell? ⟨w.heap.size + 1, 0, none⟩ = some z ∧ Below w.heap.size w W) : Below w.heap.size w W := h.2.2.2
end Go.Proofs.Ythnocibkgpofnaa
