/-
  Owned orders, or no list at all.
-/
import Derived.Test.YtfhhnelffldggaaGreatDoorUqAI
import Derived.Test.YtfhhnelffldggaaGreatDoorUqAG
import Derived.Test.YtfhhnelffldggaaGreatDoorUqAY
namespace Go.Proofs.YtfhhnelffldggaaGreatDoor
open Go.RowKit Go.PlainAid
set_option linter.unusedVariables false
set_option linter.unusedSimpArgs false
def OwnA (w : World) (B : Nat) (A : Option Addr) (n c : Nat) (l : List Od4) : Prop := w.ownsRow B 82 4 (.slice A n c) n (odV l)
theorem OwnA.own {w : World} {B n c : Nat} {A : Option Addr} {l : List Od4} (h : OwnA w B A n c l) : OwnQ w B (.slice A n c) n l := h
theorem OwnA.len {w : World} {B n c : Nat} {A : Option Addr} {l : List Od4} (h : OwnA w B A n c l) : l.length = n := h.own.len
theorem OwnA.on {w w' : World} {B n c : Nat} {A : Option Addr} {l : List Od4} (h : OwnA w B A n c l) (hb : Below w.heap.size w w') : OwnA w' B A n c l := own_keep h hb (own_lt h)
theorem OwnA.mono {w : World} {B C n c : Nat} {A : Option Addr} {l : List Od4} (h : OwnA w B A n c l) (hC : C ≤ B) : OwnA w C A n c l := own_mono h hC
theorem OwnA.drew {w : World} {B n c : Nat} {A : Option Addr} {l : List Od4} (h : OwnA w B A n c l) : OwnA w.drew B A n c l := h
theorem OwnA.nil (w : World) (B : Nat) : OwnA w B none 0 0 [] := ⟨rfl, .inl ⟨rfl, rfl⟩⟩
theorem OwnA.at {w : World} {B n c : Nat} {A : Option Addr} {l : List Od4} (h : OwnA w B A n c l) (h0 : 0 < n) : ∃ g, A = some ⟨g, 0, none⟩ ∧ OwnE w B g n c l := by
 rcases h.2 with ⟨_, e⟩ | ⟨g, cap, cur, hv, _⟩
 · omega
 ·
  cases hv
  exact ⟨g, rfl, h⟩
theorem OwnE.any {w : World} {B g n c : Nat} {l : List Od4} (h : OwnE w B g n c l) : OwnA w B (some ⟨g, 0, none⟩) n c l := h
theorem OwnA.ne {w : World} {B n c k : Nat} {A : Option Addr} {l : List Od4} {o : Obj} (h : OwnA w B A n c l) (hr : w.heap[k]? = some o) (hno : ∀ cur, o ≠ .cells cur 82 (0, 0)) : some k ≠ (Value.slice A n c).ownBlock := fun e => by
 rcases h.2 with ⟨hv, _⟩ | ⟨g, cap, cur, hv, _, hh, _⟩
 ·
  cases hv
  simp [Value.ownBlock] at e
 ·
  cases hv
  obtain rfl : k = g := by simpa [Value.ownBlock] using e
  rw [hr] at hh
  exact hno _ (Option.some.inj hh)
theorem OwnA.far {w w' : World} {B n c k : Nat} {A : Option Addr} {l : List Od4} {o : Obj} (h : OwnA w B A n c l) (hg : w.grownBy w' (Value.slice A n c).ownBlock) (hr : w.heap[k]? = some o) (hno : ∀ cur, o ≠ .cells cur 82 (0, 0)) : w'.heap[k]? = some o :=
 (hg.block k (row_lt hr) (h.ne hr hno)).trans hr
theorem OwnA.same {w w' : World} {B n c k : Nat} {A : Option Addr} {l : List Od4} {o : Obj} (h : OwnA w B A n c l) (hr : w.heap[k]? = some o) (hno : ∀ cur, o ≠ .cells cur 82 (0, 0)) (ho : ∀ i, i ≠ k → w'.heap[i]? = w.heap[i]?) : OwnA w' B A n c l := by
 have hne := h.ne hr hno
 refine ⟨h.1, ?_⟩
 rcases h.2 with h2 | ⟨g, cap, cur, hv, h3, h4, h5⟩
 · exact .inl h2
 ·
  refine .inr ⟨g, cap, cur, hv, h3, (ho g (fun e => ?_)).trans h4, h5⟩
  subst e
  exact hne (by rw [hv]; rfl)
theorem OwnA.put {w w' : World} {B n c k : Nat} {A : Option Addr} {l : List Od4} {x0 x1 x2 x3 x4 : Value} {ob : Obj} (h : OwnA w B A n c l) (hp : PutM w w' k ob) (hr : w.heap[k]? = some (.cells #[x0, x1, x2, x3, x4] 34)) : OwnA w' B A n c l :=
 h.same hr (fun cur e => by cases e) hp.2.1
theorem OwnA.first {w : World} {B g n c : Nat} {l : List Od4} {x : Od4} (h : OwnA w B (some ⟨g, 0, none⟩) n c l) (hl : l = [x]) : w.cell? ⟨g, 0, none⟩ = some (.int .i64 x.1) ∧ w.cell? ⟨g, 1, none⟩ = some (.int .i64 x.2.1) ∧ w.cell? ⟨g, 2, none⟩ = some (.int .i64 x.2.2.1) ∧ w.cell? ⟨g, 3, none⟩ = some (.int .i64 x.2.2.2) := by
 subst hl
 have hl := h.len
 simp at hl
 subst hl
 refine ⟨?_, ?_, ?_, ?_⟩
 · rw [World.ownsRow.cellAt h 0 (by omega)]; rfl
 · rw [World.ownsRow.cellAt h 1 (by omega)]; rfl
 · rw [World.ownsRow.cellAt h 2 (by omega)]; rfl
 · rw [World.ownsRow.cellAt h 3 (by omega)]; rfl
theorem OwnA.cell4 {w : World} {B g n c : Nat} {l : List Od4} (h : OwnA w B (some ⟨g, 0, none⟩) n c l) (j : Nat) (hj : j < l.length) : w.cell? ⟨g, j * 4, none⟩ = some (.int .i64 l[j].1) ∧ w.cell? ⟨g, j * 4 + 1, none⟩ = some (.int .i64 l[j].2.1) ∧ w.cell? ⟨g, j * 4 + 2, none⟩ = some (.int .i64 l[j].2.2.1) ∧ w.cell? ⟨g, j * 4 + 3, none⟩ = some (.int .i64 l[j].2.2.2) := by
 have hl := h.len
 obtain ⟨a0, a1, a2, a3⟩ := odV_at l j hj
 refine ⟨?_, ?_, ?_, ?_⟩
 · rw [World.ownsRow.cellAt h (j * 4) (by omega)]; exact a0
 · rw [World.ownsRow.cellAt h (j * 4 + 1) (by omega)]; exact a1
 · rw [World.ownsRow.cellAt h (j * 4 + 2) (by omega)]; exact a2
 · rw [World.ownsRow.cellAt h (j * 4 + 3) (by omega)]; exact a3
theorem run_appA (W : World) (ty : TypeId) (B n c : Nat) (A : Option Addr) (l : List Od4) (ad : Addr) (x : Od4) (hown : OwnA W B A n c l) (hr : RdQ W (some ad) [x]) (hn : n + 1 ≤ 3000000) (hB : B ≤ W.heap.size) :
  ∃ g' c' w', (Builtin.append_ #[78, 78] ty #[.slice A n c, .slice (some ad) 1 1]).run Tryz.prog W = .ok (.slice (some ⟨g', 0, none⟩) (n + 1) c') w' ∧ OwnA w' B (some ⟨g', 0, none⟩) (n + 1) c' (l ++ [x]) ∧ W.grownBy w' (Value.slice A n c).ownBlock := by
 obtain ⟨i0, hi, hz0, hz1, hz2⟩ := info_parts infoQ
 obtain ⟨v', w', hrun, h2, h3, h4⟩ := run_append_own (P := Tryz.prog) (w := W) B 78 ty 82 i0 (.agg #[.int .i64 0, .int .i64 0, .int .i64 0, .int .i64 0]) 4 32 Tryz.underlying78 hi hz0 hz1 hz2 rfl (by decide) _ n _ hown ad 1 1 (odV [x]) (by rw [odV_len]; rfl) hr.cells (odV_one [x]) (by unfold maxLen; omega) (by omega) hB
 rcases h2.2 with ⟨hv, _⟩ | ⟨g', cap, cur, rfl, _⟩
 · have := (h4.1 hv).2; simp at this
 ·
  refine ⟨g', cap, w', hrun, ?_, h3⟩
  unfold OwnA
  rw [odV_append]
  exact h2
theorem listA {ops : Array Oper} {rest : List Oper} {o : Oper} {a : Act} {Q : Exit → Act → World → Prop} {W : World} (hgd : o.guard = none) (s x : Operand)
  (ho : o.op = .call { callee := .builtin .append, args := #[s, x], argTypes := #[78, 78] }) (B n c : Nat) (A : Option Addr) (l : List Od4) (ad : Addr) (y : Od4)
  (hs : a.eval s = .slice A n c) (hx : a.eval x = .slice (some ad) 1 1) (hown : OwnA W B A n c l) (hr : RdQ W (some ad) [y]) (hn : n + 1 ≤ 3000000) (hB : B ≤ W.heap.size)
  (h : ∀ g' c' w', OwnA w' B (some ⟨g', 0, none⟩) (n + 1) c' (l ++ [y]) → W.grownBy w' (Value.slice A n c).ownBlock → wpList Tryz.prog ops Q rest (a.put o.dst (.slice (some ⟨g', 0, none⟩) (n + 1) c')) w') : wpList Tryz.prog ops Q (o :: rest) a W := by
 refine wpList_plain hgd fun _ hK => ?_
 obtain ⟨g', c', w', hrun, h2, h3⟩ := run_appA W o.type B n c A l ad y hown hr hn hB
 unfold Oper.wp execOp
 simp only [ho, resolve, invoke, builtin, Sem.run_bind, Sem.run_pure, Result.andThen_ok, List.map_toArray, List.map_cons, List.map_nil, hs, hx, hrun]
 exact hK _ _ (h g' c' w' h2 h3)
end Go.Proofs.YtfhhnelffldggaaGreatDoor
