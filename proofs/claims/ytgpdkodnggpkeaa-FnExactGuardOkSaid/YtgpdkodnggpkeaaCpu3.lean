/-
  Machines: copies and answers: the contracts of the program's and of the specification's.
-/
import Derived.Test.YtgpdkodnggpkeaaCpu2
import Derived.Maps.AppendAt
namespace Go.Proofs.Ytgpdkodnggpkeaa
open Go.RowKit Go.PlainAid
set_option linter.unusedVariables false

/-- append onto a list of numbers that the call owns -/
theorem run_appN (W : World) (ty : TypeId) (B g n c : Nat) (l : List Int) (q : Option Addr) (m cx : Nat) (l' : List Int) (hown : OwnN W B g n c l) (hl : l'.length = m) (hq : q = none → m = 0 ∧ cx = 0) (hr : Rd W q l') (hn : n + m ≤ 3000000) (hB : B ≤ W.heap.size) :
    ∃ g' c' w', (Builtin.append_ #[24, 24] ty #[.slice (some ⟨g, 0, none⟩) n c, .slice q m cx]).run Try.prog W = .ok (.slice (some ⟨g', 0, none⟩) (n + m) c') w' ∧ OwnN w' B g' (n + m) c' (l ++ l') ∧ W.grownBy w' (some g) ∧ (g' = g ∨ g' = W.heap.size) := by
  obtain ⟨i0, hi, hz0, hz1, hz2⟩ := info_parts info3
  cases q with
  | none =>
    obtain ⟨rfl, rfl⟩ := hq rfl
    refine ⟨g, c, W, ?_, ?_, World.grownBy.refl _ _, .inl rfl⟩
    · exact run_append_owned_none (P := Try.prog) (w := W) B 24 ty 3 i0 1 Try.underlying24 hi _ n _ hown
    · rw [List.length_eq_zero_iff.1 hl, List.append_nil]; exact hown
  | some ad =>
    obtain ⟨v', w', hrun, h2, h3, h4, h5⟩ := run_append_own_at (P := Try.prog) W B 24 ty 3 i0 (.int .i64 0) 1 8 Try.underlying24 hi hz0 hz1 hz2 rfl (by decide) _ n _ hown ad m cx (intsV l') (by rw [intsV_len, hl]; simp) (fun j u hu => by
      obtain ⟨hj, rfl⟩ := intsV_at hu
      obtain ⟨b, off, ha, hc⟩ := hr (by omega)
      cases ha
      rw [add_at]
      exact hc j hj) intsV_one (by unfold maxLen; omega) (by omega) hB
    rcases h2.2 with ⟨hv, _⟩ | ⟨g', cap, cur, rfl, _⟩
    · have := h4.1 hv; simp at this
    · refine ⟨g', cap, w', hrun, ?_, h3, ?_⟩
      · unfold OwnN
        rw [show intsV (l ++ l') = intsV l ++ intsV l' by simp [intsV]]
        exact h2
      · simp [Value.ownBlock] at h5
        exact h5

theorem wpN {o : Oper} {a : Act} {K : Act → World → Prop} {Q : Exit → Act → World → Prop} (W : World) (s x : Operand)
    (ho : o.op = .call { callee := .builtin .append, args := #[s, x], argTypes := #[24, 24] }) (B g n c : Nat) (l : List Int) (q : Option Addr) (m cx : Nat) (l' : List Int)
    (hs : a.eval s = .slice (some ⟨g, 0, none⟩) n c) (hx : a.eval x = .slice q m cx) (hown : OwnN W B g n c l) (hl : l'.length = m) (hq : q = none → m = 0 ∧ cx = 0) (hr : Rd W q l') (hn : n + m ≤ 3000000) (hB : B ≤ W.heap.size)
    (h : ∀ g' c' w', OwnN w' B g' (n + m) c' (l ++ l') → W.grownBy w' (some g) → (g' = g ∨ g' = W.heap.size) → K (a.put o.dst (.slice (some ⟨g', 0, none⟩) (n + m) c')) w') : o.wp Try.prog a W K Q := by
  obtain ⟨g', c', w', hrun, h2, h3, h4⟩ := run_appN W o.type B g n c l q m cx l' hown hl hq hr hn hB
  unfold Oper.wp execOp
  simp only [ho, resolve, invoke, builtin, Sem.run_bind, Sem.run_pure, Result.andThen_ok, List.map_toArray, List.map_cons, List.map_nil, hs, hx, hrun]
  exact h g' c' w' h2 h3 h4
/-- .. in a plain region -/
theorem listN {ops : Array Oper} {rest : List Oper} {o : Oper} {a : Act} {Q : Exit → Act → World → Prop} {W : World} (hgd : o.guard = none) (s x : Operand)
    (ho : o.op = .call { callee := .builtin .append, args := #[s, x], argTypes := #[24, 24] }) (B g n c : Nat) (l : List Int) (q : Option Addr) (m cx : Nat) (l' : List Int)
    (hs : a.eval s = .slice (some ⟨g, 0, none⟩) n c) (hx : a.eval x = .slice q m cx) (hown : OwnN W B g n c l) (hl : l'.length = m) (hq : q = none → m = 0 ∧ cx = 0) (hr : Rd W q l') (hn : n + m ≤ 3000000) (hB : B ≤ W.heap.size)
    (h : ∀ g' c' w', OwnN w' B g' (n + m) c' (l ++ l') → W.grownBy w' (some g) → (g' = g ∨ g' = W.heap.size) → wpList Try.prog ops Q rest (a.put o.dst (.slice (some ⟨g', 0, none⟩) (n + m) c')) w') : wpList Try.prog ops Q (o :: rest) a W :=
  wpList_plain hgd fun _ hK => wpN W s x ho B g n c l q m cx l' hs hx hown hl hq hr hn hB fun g' c' w' h2 h3 h4 => hK _ _ (h g' c' w' h2 h3 h4)
/-- .. in a region that draws its order -/
theorem anyN {ops : Array Oper} {o : Oper} {a : Act} {K : Act → World → Prop} {Q : Exit → Act → World → Prop} {E : Prop} {W : World} (hw : Region.wanted o (yielded ops a.tmps) = true) (s x : Operand)
    (ho : o.op = .call { callee := .builtin .append, args := #[s, x], argTypes := #[24, 24] }) (B g n c : Nat) (l : List Int) (q : Option Addr) (m cx : Nat) (l' : List Int)
    (hs : a.eval s = .slice (some ⟨g, 0, none⟩) n c) (hx : a.eval x = .slice q m cx) (hown : OwnN W B g n c l) (hl : l'.length = m) (hq : q = none → m = 0 ∧ cx = 0) (hr : Rd W q l') (hn : n + m ≤ 3000000) (hB : B ≤ W.heap.size)
    (h : ∀ g' c' w', OwnN w' B g' (n + m) c' (l ++ l') → W.grownBy w' (some g) → (g' = g ∨ g' = W.heap.size) → K (a.put o.dst (.slice (some ⟨g', 0, none⟩) (n + m) c')) w') :
    if Region.wanted o (yielded ops a.tmps) = true then Oper.wp Try.prog o a W K Q else E := by
  rw [if_pos hw]
  exact wpN W s x ho B g n c l q m cx l' hs hx hown hl hq hr hn hB h

theorem box2b (w : World) (x y x' y' : Value) (t r : TypeId) :
    ((w.alloc (.cells #[x, y] t)).alloc (.cells #[x', y'] r)).heap[w.heap.size]? = some (.cells #[x, y] t) ∧ ((w.alloc (.cells #[x, y] t)).alloc (.cells #[x', y'] r)).heap[w.heap.size + 1]? = some (.cells #[x', y'] r) ∧ Below w.heap.size w ((w.alloc (.cells #[x, y] t)).alloc (.cells #[x', y'] r)) ∧ ((w.alloc (.cells #[x, y] t)).alloc (.cells #[x', y'] r)).heap.size = w.heap.size + 2 := by
  have h0 := heap_new w (.cells #[x, y] t)
  have h1 := heap_new (w.alloc (.cells #[x, y] t)) (.cells #[x', y'] r)
  refine ⟨(Below.heap_alloc _ _ _ (by simp)).trans h0, by simpa using h1, ((Below.refl _ _).alloc (Nat.le_refl _) _).alloc (by simp) _, by simp⟩

/-- what the specification's copy holds while its region draws -/
theorem l6_set {w W : World} {x y : Value} {k i : Nat} {z : Value} (hk : w.heap.size < k) (h : W.cell? ⟨w.heap.size, 0, none⟩ = some x ∧ W.cell? ⟨w.heap.size, 1, none⟩ = some y ∧ Below w.heap.size w W) :
    (W.setCell ⟨k, i, none⟩ z).cell? ⟨w.heap.size, 0, none⟩ = some x ∧ (W.setCell ⟨k, i, none⟩ z).cell? ⟨w.heap.size, 1, none⟩ = some y ∧ Below w.heap.size w (W.setCell ⟨k, i, none⟩ z) := by
  refine ⟨?_, ?_, h.2.2.setCell (by simp; omega) _⟩
  · rw [World.cell?_of_block (w := W) (Below.heap_setCell _ _ _ _ (by simp; omega))]; exact h.1
  · rw [World.cell?_of_block (w := W) (Below.heap_setCell _ _ _ _ (by simp; omega))]; exact h.2.1
theorem l6_grown {w W W' : World} {x y : Value} {r : Nat} (h : W.cell? ⟨w.heap.size, 0, none⟩ = some x ∧ W.cell? ⟨w.heap.size, 1, none⟩ = some y ∧ Below w.heap.size w W) (hg : W.grownBy W' (some r)) (hr : w.heap.size < r) :
    W'.cell? ⟨w.heap.size, 0, none⟩ = some x ∧ W'.cell? ⟨w.heap.size, 1, none⟩ = some y ∧ Below w.heap.size w W' := by
  have hlt := World.block_lt_of_cell? W ⟨w.heap.size, 0, none⟩ h.1
  exact ⟨(hg.cell_far ⟨w.heap.size, 0, none⟩ hlt (by simp; omega)).trans h.1, (hg.cell_far ⟨w.heap.size, 1, none⟩ hlt (by simp; omega)).trans h.2.1, h.2.2.grown hg h.2.2.size (fun k hk => by cases hk; omega)⟩
theorem l6_alloc {w W : World} {x y : Value} (h : W.cell? ⟨w.heap.size, 0, none⟩ = some x ∧ W.cell? ⟨w.heap.size, 1, none⟩ = some y ∧ Below w.heap.size w W) (o : Obj) :
    (W.alloc o).cell? ⟨w.heap.size, 0, none⟩ = some x ∧ (W.alloc o).cell? ⟨w.heap.size, 1, none⟩ = some y ∧ Below w.heap.size w (W.alloc o) := by
  have hb : Below W.heap.size W (W.alloc o) := (Below.refl _ _).alloc (Nat.le_refl _) _
  exact ⟨cell_on h.1 hb, cell_on h.2.1 hb, h.2.2.alloc h.2.2.size _⟩
theorem own_new (w : World) (B : Nat) (hB : B ≤ w.heap.size) : OwnN (w.alloc (.cells #[] 3)) B w.heap.size 0 0 [] := own_built3 w B hB
theorem own_new' (w : World) (B k : Nat) (hk : k = w.heap.size) (hB : B ≤ w.heap.size) : OwnN (w.alloc (.cells #[] 3)) B k 0 0 [] := by subst hk; exact own_built3 w B hB
theorem Rd.drew {w : World} {a : Option Addr} {l : List Int} (h : Rd w a l) : Rd w.drew a l := h
theorem OwnN.drew {w : World} {B g n c : Nat} {l : List Int} (h : OwnN w B g n c l) : OwnN w.drew B g n c l := h

theorem rd_one (w : World) (y : Int) : Rd (w.alloc (.cells #[.int .i64 y] 3)) (some ⟨w.heap.size, 0, none⟩) [y] := by
  intro _
  refine ⟨w.heap.size, 0, rfl, fun j hj => ?_⟩
  have hj0 : j = 0 := by simp at hj; omega
  subst hj0
  exact (row1_cells (heap_new w (.cells #[.int .i64 y] 3))).1
theorem two_sets {w : World} {k : Nat} {t : TypeId} {x y x' y' : Value} (h : w.heap[k]? = some (.cells #[x, y] t)) : ((w.setCell ⟨k, 0, none⟩ x').setCell ⟨k, 1, none⟩ y').heap[k]? = some (.cells #[x', y'] t) := set1_row (i := 1) (set1_row (i := 0) h)
theorem set_b {w : World} {k : Nat} {t : TypeId} {x y y' : Value} (h : w.heap[k]? = some (.cells #[x, y] t)) : (w.setCell ⟨k, 1, none⟩ y').heap[k]? = some (.cells #[x, y'] t) := set1_row (i := 1) h
/-- an owned list stays behind writes into other blocks -/
theorem OwnN.set {w : World} {B g n c k i : Nat} {l : List Int} {x : Value} (h : OwnN w B g n c l) (hk : g ≠ k) : OwnN (w.setCell ⟨k, i, none⟩ x) B g n c l := own_setOther h (fun j hj => by simp [Value.ownBlock] at hj; omega)

theorem box_new (w : World) (x y : Value) (t : TypeId) (k : Nat) (o : Obj) (h : w.heap[k]? = some o) : (w.alloc (.cells #[x, y] t)).heap[k]? = some o := (Below.heap_alloc _ _ _ (row_lt h)).trans h

end Go.Proofs.Ytgpdkodnggpkeaa
