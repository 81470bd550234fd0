/-
  Lists of Orders: in memory, read, copied, compared, sized.
-/
import Derived.Test.YtfhhnelffldggaaGreatDoorRqAG
import Derived.Deep.Slices
import Derived.OpenShut
import Derived.Maps.AppendAt
import Derived.Laws.AppendOwnNone
set_option maxRecDepth 100000
set_option maxHeartbeats 16000000
namespace Go.Proofs.YtfhhnelffldggaaGreatDoor
open Go.ChangeShapes Go.WideShapes Go.ChangeAt Go.RowKit Go.PlainAid
set_option linter.unusedVariables false
theorem row_after {w W' : World} {k B : Nat} {o : Obj} (h : w.heap[k]? = some o) (hb : Below B w W') (hk : k < B) : W'.heap[k]? = some o := (hb.block k hk).trans h
theorem add_at (g o j : Nat) : (⟨g, o, none⟩ : Addr).add j = ⟨g, o + j, none⟩ := by
  unfold Addr.add; split <;> simp_all
theorem own_lt {w : World} {B e z n : Nat} {v : Value} {xs : List Value} (h : w.ownsRow B e z v n xs) : ∀ g, v.ownBlock = some g → g < w.heap.size := fun k hk => (h.lt k hk).2
theorem own_ge {w : World} {B e z n : Nat} {v : Value} {xs : List Value} (h : w.ownsRow B e z v n xs) : ∀ g, v.ownBlock = some g → B ≤ g := fun k hk => (h.lt k hk).1
theorem own_keep {w w' : World} {B C e z n : Nat} {v : Value} {xs : List Value} (h : w.ownsRow B e z v n xs) (hb : Below C w w') (hlt : ∀ g, v.ownBlock = some g → g < C) : w'.ownsRow B e z v n xs := by
  refine ⟨h.1, ?_⟩
  rcases h.2 with h2 | ⟨g, cap, cur, rfl, hg, hh, h3⟩
  · exact .inl h2
  · exact .inr ⟨g, cap, cur, rfl, hg, by rw [hb.block g (hlt g rfl)]; exact hh, h3⟩
theorem own_mono {w : World} {B C e z n : Nat} {v : Value} {xs : List Value} (h : w.ownsRow B e z v n xs) (hC : C ≤ B) : w.ownsRow C e z v n xs := by
  refine ⟨h.1, ?_⟩
  rcases h.2 with h2 | ⟨g, cap, cur, rfl, hg, h3⟩
  · exact .inl h2
  · exact .inr ⟨g, cap, cur, rfl, by omega, h3⟩
theorem own_shapeW {w : World} {B e z n : Nat} {v : Value} {xs : List Value} (h : w.ownsRow B e z v n xs) : ∃ a cap, v = .slice a n cap := by
  rcases h.2 with ⟨rfl, e⟩ | ⟨g, cap, cur, rfl, _⟩
  · exact ⟨none, 0, by rw [e]⟩
  · exact ⟨_, cap, rfl⟩
def odV : List Od4 → List Value
  | [] => []
  | r :: t => .int .i64 r.1 :: .int .i64 r.2.1 :: .int .i64 r.2.2.1 :: .int .i64 r.2.2.2 :: odV t
theorem odV_len : ∀ l : List Od4, (odV l).length = l.length * 4
  | [] => rfl
  | r :: t => by simp [odV, odV_len t]; omega
theorem odV_append : ∀ x y : List Od4, odV (x ++ y) = odV x ++ odV y
  | [], y => rfl
  | r :: t, y => by simp [odV, odV_append t y]
theorem odV_at : ∀ (l : List Od4) (j : Nat) (h : j < l.length), (odV l)[j * 4]? = some (.int .i64 l[j].1) ∧ (odV l)[j * 4 + 1]? = some (.int .i64 l[j].2.1) ∧ (odV l)[j * 4 + 2]? = some (.int .i64 l[j].2.2.1) ∧ (odV l)[j * 4 + 3]? = some (.int .i64 l[j].2.2.2)
  | [], j, h => by simp at h
  | r :: t, 0, h => by simp [odV]
  | r :: t, j + 1, h => by
    have := odV_at t j (by simpa using h)
    rw [show (j + 1) * 4 = j * 4 + 1 + 1 + 1 + 1 by omega, show j * 4 + 1 + 1 + 1 + 1 + 2 = j * 4 + 2 + 1 + 1 + 1 + 1 by omega, show j * 4 + 1 + 1 + 1 + 1 + 3 = j * 4 + 3 + 1 + 1 + 1 + 1 by omega]
    simpa [odV] using this
theorem odV_one : ∀ l : List Od4, ∀ v ∈ odV l, v.oneCell' = true
  | [], v, h => by cases h
  | r :: t, v, h => by
    rcases List.mem_cons.1 h with rfl | h
    · rfl
    · skip
      rcases List.mem_cons.1 h with rfl | h
      · rfl
      · skip
        rcases List.mem_cons.1 h with rfl | h
        · rfl
        · skip
          rcases List.mem_cons.1 h with rfl | h
          · rfl
          · exact odV_one t v h
theorem infoQ : (Tryz.prog.info? 82).map (fun i => (i.zero, i.size, i.bytes)) = some (some (.agg #[.int .i64 0, .int .i64 0, .int .i64 0, .int .i64 0]), 4, 32) := by kernel_rfl
def RdQ (w : World) (a : Option Addr) (l : List Od4) : Prop := 0 < l.length → ∃ g off, a = some ⟨g, off, none⟩ ∧ ∀ j (h : j < l.length), w.cell? ⟨g, off + j * 4, none⟩ = some (.int .i64 l[j].1) ∧ w.cell? ⟨g, off + j * 4 + 1, none⟩ = some (.int .i64 l[j].2.1) ∧ w.cell? ⟨g, off + j * 4 + 2, none⟩ = some (.int .i64 l[j].2.2.1) ∧ w.cell? ⟨g, off + j * 4 + 3, none⟩ = some (.int .i64 l[j].2.2.2)
theorem RdQ.keep {w w' : World} {a : Option Addr} {l : List Od4} {B : Nat} (h : RdQ w a l) (hb : Below B w w') (hB : w.heap.size ≤ B) : RdQ w' a l := fun h0 => by
  obtain ⟨g, off, ha, hc⟩ := h h0
  refine ⟨g, off, ha, fun j hj => ?_⟩
  obtain ⟨h0, h1, h2, h3⟩ := hc j hj
  have hlt := Nat.lt_of_lt_of_le (World.block_lt_of_cell? w ⟨g, off + j * 4, none⟩ h0) hB
  exact ⟨(hb.cell (p := ⟨g, off + j * 4, none⟩) hlt).trans h0, (hb.cell (p := ⟨g, off + j * 4 + 1, none⟩) hlt).trans h1, (hb.cell (p := ⟨g, off + j * 4 + 2, none⟩) hlt).trans h2, (hb.cell (p := ⟨g, off + j * 4 + 3, none⟩) hlt).trans h3⟩
theorem RdQ.on {w w' : World} {a : Option Addr} {l : List Od4} (h : RdQ w a l) (hb : Below w.heap.size w w') : RdQ w' a l := h.keep hb (Nat.le_refl _)
def OwnQ (w : World) (B : Nat) (v : Value) (n : Nat) (l : List Od4) : Prop := w.ownsRow B 82 4 v n (odV l)
theorem OwnQ.len {w : World} {B n : Nat} {v : Value} {l : List Od4} (h : OwnQ w B v n l) : l.length = n := by
  have := h.1; rw [odV_len] at this; omega
theorem OwnQ.rd {w : World} {B n c : Nat} {a : Option Addr} {l : List Od4} (h : OwnQ w B (.slice a n c) n l) : RdQ w a l := fun h0 => by
  have hl := h.len
  rcases h.2 with ⟨hv, e⟩ | ⟨g, cap, cur, hv, _⟩
  · omega
  · cases hv
    refine ⟨g, 0, rfl, fun j hj => ?_⟩
    obtain ⟨h0, h1, h2, h3⟩ := odV_at l j hj
    refine ⟨?_, ?_, ?_, ?_⟩
    · rw [Nat.zero_add, h.cellAt (j * 4) (by omega)]; exact h0
    · rw [Nat.zero_add, h.cellAt (j * 4 + 1) (by omega)]; exact h1
    · rw [Nat.zero_add, h.cellAt (j * 4 + 2) (by omega)]; exact h2
    · rw [Nat.zero_add, h.cellAt (j * 4 + 3) (by omega)]; exact h3
theorem odV_set : ∀ (l : List Od4) (j : Nat) (x y z u : Int), ((((odV l).set (j * 4) (.int .i64 x)).set (j * 4 + 1) (.int .i64 y)).set (j * 4 + 2) (.int .i64 z)).set (j * 4 + 3) (.int .i64 u) = odV (l.set j (x, y, z, u))
  | [], j, x, y, z, u => by simp [odV]
  | r :: l, 0, x, y, z, u => by simp [odV]
  | r :: l, j + 1, x, y, z, u => by
    have := odV_set l j x y z u
    rw [show (j + 1) * 4 = j * 4 + 1 + 1 + 1 + 1 by omega, show j * 4 + 1 + 1 + 1 + 1 + 2 = j * 4 + 2 + 1 + 1 + 1 + 1 by omega, show j * 4 + 1 + 1 + 1 + 1 + 3 = j * 4 + 3 + 1 + 1 + 1 + 1 by omega]
    simpa [odV] using this
def RowQ (w : World) (g : Nat) (l : List Od4) : Prop := w.heap[g]? = some (.cells (odV l).toArray 82 (0, 0))
theorem RowQ.lt {w : World} {g : Nat} {l : List Od4} (h : RowQ w g l) : g < w.heap.size := row_lt h
theorem RowQ.on {w w' : World} {g : Nat} {l : List Od4} (h : RowQ w g l) (hb : Below w.heap.size w w') : RowQ w' g l := row_after h hb (row_lt h)
theorem RowQ.cell {w : World} {g : Nat} {l : List Od4} (h : RowQ w g l) (j : Nat) (hj : j < l.length) : w.cell? ⟨g, j * 4, none⟩ = some (.int .i64 l[j].1) ∧ w.cell? ⟨g, j * 4 + 1, none⟩ = some (.int .i64 l[j].2.1) ∧ w.cell? ⟨g, j * 4 + 2, none⟩ = some (.int .i64 l[j].2.2.1) ∧ w.cell? ⟨g, j * 4 + 3, none⟩ = some (.int .i64 l[j].2.2.2) := by
  have := odV_at l j hj
  rw [cell_of_row w g (j * 4) _ _ (0, 0) h, cell_of_row w g (j * 4 + 1) _ _ (0, 0) h, cell_of_row w g (j * 4 + 2) _ _ (0, 0) h, cell_of_row w g (j * 4 + 3) _ _ (0, 0) h]
  simpa using this
theorem RowQ.free {w : World} {g : Nat} {l : List Od4} (h : RowQ w g l) (j : Nat) : w.frozen? ⟨g, j, none⟩ = false := frozen_of_row w g j _ _ h
theorem RowQ.rd {w : World} {g : Nat} {l : List Od4} (h : RowQ w g l) : RdQ w (some ⟨g, 0, none⟩) l := fun _ => ⟨g, 0, rfl, fun j hj => by rw [Nat.zero_add]; exact h.cell j hj⟩
theorem RowQ.set {w : World} {g : Nat} {l : List Od4} (h : RowQ w g l) (j : Nat) (x y z u : Int) : RowQ ((((w.setCell ⟨g, j * 4, none⟩ (.int .i64 x)).setCell ⟨g, j * 4 + 1, none⟩ (.int .i64 y)).setCell ⟨g, j * 4 + 2, none⟩ (.int .i64 z)).setCell ⟨g, j * 4 + 3, none⟩ (.int .i64 u)) g (l.set j (x, y, z, u)) := by
  unfold RowQ at h ⊢
  have h1 := heap_setCell_same w g (j * 4) _ _ (.int .i64 x) h
  have h2 := heap_setCell_same _ g (j * 4 + 1) _ _ (.int .i64 y) h1
  have h3 := heap_setCell_same _ g (j * 4 + 2) _ _ (.int .i64 z) h2
  rw [heap_setCell_same _ g (j * 4 + 3) _ _ (.int .i64 u) h3, ← odV_set]
  simp
def OwnE (w : World) (B g n c : Nat) (l : List Od4) : Prop := w.ownsRow B 82 4 (.slice (some ⟨g, 0, none⟩) n c) n (odV l)
theorem OwnE.own {w : World} {B g n c : Nat} {l : List Od4} (h : OwnE w B g n c l) : OwnQ w B (.slice (some ⟨g, 0, none⟩) n c) n l := h
theorem OwnE.len {w : World} {B g n c : Nat} {l : List Od4} (h : OwnE w B g n c l) : l.length = n := h.own.len
theorem OwnE.ge {w : World} {B g n c : Nat} {l : List Od4} (h : OwnE w B g n c l) : B ≤ g := own_ge h g rfl
theorem OwnE.lt {w : World} {B g n c : Nat} {l : List Od4} (h : OwnE w B g n c l) : g < w.heap.size := own_lt h g rfl
theorem OwnE.on {w w' : World} {B g n c : Nat} {l : List Od4} (h : OwnE w B g n c l) (hb : Below w.heap.size w w') : OwnE w' B g n c l := own_keep h hb (own_lt h)
theorem OwnE.mono {w : World} {B C g n c : Nat} {l : List Od4} (h : OwnE w B g n c l) (hC : C ≤ B) : OwnE w C g n c l := own_mono h hC
theorem OwnE.rd {w : World} {B g n c : Nat} {l : List Od4} (h : OwnE w B g n c l) : RdQ w (some ⟨g, 0, none⟩) l := h.own.rd
theorem OwnE.drew {w : World} {B g n c : Nat} {l : List Od4} (h : OwnE w B g n c l) : OwnE w.drew B g n c l := h
theorem OwnE.same {w w' : World} {B g n c : Nat} {l : List Od4} (h : OwnE w B g n c l) (hg : w'.heap[g]? = w.heap[g]?) : OwnE w' B g n c l := by
  refine ⟨h.1, ?_⟩
  rcases h.2 with h2 | ⟨g', cap, cur, e, h3, h4, h5⟩
  · exact .inl h2
  · cases e
    exact .inr ⟨_, _, _, rfl, h3, hg.trans h4, h5⟩
theorem OwnE.put {w w' : World} {B g n c k : Nat} {l : List Od4} {o : Obj} (h : OwnE w B g n c l) (hp : PutM w w' k o) (hne : g ≠ k) : OwnE w' B g n c l := h.same (hp.2.1 g hne)
theorem ownE_empty (w : World) (B : Nat) (hB : B ≤ w.heap.size) : OwnE (w.alloc (.cells #[] 82)) B w.heap.size 0 0 [] :=
  ⟨rfl, Or.inr ⟨_, 0, #[], rfl, hB, by show (w.heap.push _)[w.heap.size]? = _; simp, Nat.le_refl _, by decide, rfl, rfl⟩⟩
theorem RdQ.cells {w : World} {ad : Addr} {l : List Od4} (h : RdQ w (some ad) l) : ∀ j u, (odV l)[j]? = some u → w.cell? (ad.add j) = some u := by
  intro j v hv
  have hj : j < l.length * 4 := by
    rcases Nat.lt_or_ge j (l.length * 4) with h' | h'
    · exact h'
    · rw [List.getElem?_eq_none (by rw [odV_len]; exact h')] at hv; cases hv
  obtain ⟨g, off, ha, hc⟩ := h (by omega)
  cases ha
  obtain ⟨a0, a1, a2, a3⟩ := odV_at l (j / 4) (by omega)
  obtain ⟨b0, b1, b2, b3⟩ := hc (j / 4) (by omega)
  rw [add_at]
  have e4 : j % 4 = 0 ∨ j % 4 = 1 ∨ j % 4 = 2 ∨ j % 4 = 3 := by omega
  rcases e4 with e | e | e | e
  · rw [show j / 4 * 4 = j by omega, hv] at a0
    rw [show off + j / 4 * 4 = off + j by omega] at b0
    rw [b0]; exact a0.symm
  · rw [show j / 4 * 4 + 1 = j by omega, hv] at a1
    rw [show off + j / 4 * 4 + 1 = off + j by omega] at b1
    rw [b1]; exact a1.symm
  · rw [show j / 4 * 4 + 2 = j by omega, hv] at a2
    rw [show off + j / 4 * 4 + 2 = off + j by omega] at b2
    rw [b2]; exact a2.symm
  · rw [show j / 4 * 4 + 3 = j by omega, hv] at a3
    rw [show off + j / 4 * 4 + 3 = off + j by omega] at b3
    rw [b3]; exact a3.symm
theorem run_appQ (W : World) (ty : TypeId) (B g n c : Nat) (l : List Od4) (q : Option Addr) (m cx : Nat) (l' : List Od4) (hown : OwnE W B g n c l) (hl : l'.length = m) (hq : q = none → m = 0 ∧ cx = 0) (hr : RdQ W q l') (hn : n + m ≤ 3000000) (hB : B ≤ W.heap.size) :
    ∃ g' c' w', (Builtin.append_ #[78, 78] ty #[.slice (some ⟨g, 0, none⟩) n c, .slice q m cx]).run Tryz.prog W = .ok (.slice (some ⟨g', 0, none⟩) (n + m) c') w' ∧ OwnE w' B g' (n + m) c' (l ++ l') ∧ W.grownBy w' (some g) := by
  obtain ⟨i0, hi, hz0, hz1, hz2⟩ := info_parts infoQ
  cases q with
  | none =>
    obtain ⟨rfl, rfl⟩ := hq rfl
    refine ⟨g, c, W, ?_, ?_, World.grownBy.refl _ _⟩
    · exact run_append_owned_none (P := Tryz.prog) (w := W) B 78 ty 82 i0 4 Tryz.underlying78 hi _ n _ hown
    · rw [List.length_eq_zero_iff.1 hl, List.append_nil]; exact hown
  | some ad =>
    obtain ⟨v', w', hrun, h2, h3, h4, h5⟩ := run_append_own_at (P := Tryz.prog) W B 78 ty 82 i0 (.agg #[.int .i64 0, .int .i64 0, .int .i64 0, .int .i64 0]) 4 32 Tryz.underlying78 hi hz0 hz1 hz2 rfl (by decide) _ n _ hown ad m cx (odV l') (by rw [odV_len, hl]) hr.cells (odV_one l') (by unfold maxLen; omega) (by omega) hB
    rcases h2.2 with ⟨hv, _⟩ | ⟨g', cap, cur, rfl, _⟩
    · have := h4.1 hv; simp at this
    · refine ⟨g', cap, w', hrun, ?_, h3⟩
      unfold OwnE
      rw [odV_append]
      exact h2
theorem wpQ {o : Oper} {a : Act} {K : Act → World → Prop} {Q : Exit → Act → World → Prop} (W : World) (s x : Operand)
    (ho : o.op = .call { callee := .builtin .append, args := #[s, x], argTypes := #[78, 78] }) (B g n c : Nat) (l : List Od4) (q : Option Addr) (m cx : Nat) (l' : List Od4)
    (hs : a.eval s = .slice (some ⟨g, 0, none⟩) n c) (hx : a.eval x = .slice q m cx) (hown : OwnE W B g n c l) (hl : l'.length = m) (hq : q = none → m = 0 ∧ cx = 0) (hr : RdQ W q l') (hn : n + m ≤ 3000000) (hB : B ≤ W.heap.size)
    (h : ∀ g' c' w', OwnE w' B g' (n + m) c' (l ++ l') → W.grownBy w' (some g) → K (a.put o.dst (.slice (some ⟨g', 0, none⟩) (n + m) c')) w') : o.wp Tryz.prog a W K Q := by
  obtain ⟨g', c', w', hrun, h2, h3⟩ := run_appQ W o.type B g n c l q m cx l' hown hl hq hr hn hB
  unfold Oper.wp execOp
  simp only [ho, resolve, invoke, builtin, Sem.run_bind, Sem.run_pure, Result.andThen_ok, List.map_toArray, List.map_cons, List.map_nil, hs, hx, hrun]
  exact h g' c' w' h2 h3
theorem listQ {ops : Array Oper} {rest : List Oper} {o : Oper} {a : Act} {Q : Exit → Act → World → Prop} {W : World} (hgd : o.guard = none) (s x : Operand)
    (ho : o.op = .call { callee := .builtin .append, args := #[s, x], argTypes := #[78, 78] }) (B g n c : Nat) (l : List Od4) (q : Option Addr) (m cx : Nat) (l' : List Od4)
    (hs : a.eval s = .slice (some ⟨g, 0, none⟩) n c) (hx : a.eval x = .slice q m cx) (hown : OwnE W B g n c l) (hl : l'.length = m) (hq : q = none → m = 0 ∧ cx = 0) (hr : RdQ W q l') (hn : n + m ≤ 3000000) (hB : B ≤ W.heap.size)
    (h : ∀ g' c' w', OwnE w' B g' (n + m) c' (l ++ l') → W.grownBy w' (some g) → wpList Tryz.prog ops Q rest (a.put o.dst (.slice (some ⟨g', 0, none⟩) (n + m) c')) w') : wpList Tryz.prog ops Q (o :: rest) a W :=
  wpList_plain hgd fun _ hK => wpQ W s x ho B g n c l q m cx l' hs hx hown hl hq hr hn hB fun g' c' w' h2 h3 => hK _ _ (h g' c' w' h2 h3)
theorem one_rowQ (w : World) (x y z u : Int) : RowQ (w.alloc (oB x y z u)) w.heap.size [(x, y, z, u)] := heap_new w _
abbrev Tk3 := Int × Int × Int
def tkV : List Tk3 → List Value
  | [] => []
  | r :: t => .int .i64 r.1 :: .int .i64 r.2.1 :: .int .i64 r.2.2 :: tkV t
theorem tkV_len : ∀ l : List Tk3, (tkV l).length = l.length * 3
  | [] => rfl
  | r :: t => by simp [tkV, tkV_len t]; omega
theorem tkV_append : ∀ x y : List Tk3, tkV (x ++ y) = tkV x ++ tkV y
  | [], y => rfl
  | r :: t, y => by simp [tkV, tkV_append t y]
theorem tkV_at : ∀ (l : List Tk3) (j : Nat) (h : j < l.length), (tkV l)[j * 3]? = some (.int .i64 l[j].1) ∧ (tkV l)[j * 3 + 1]? = some (.int .i64 l[j].2.1) ∧ (tkV l)[j * 3 + 2]? = some (.int .i64 l[j].2.2)
  | [], j, h => by simp at h
  | r :: t, 0, h => by simp [tkV]
  | r :: t, j + 1, h => by
    have := tkV_at t j (by simpa using h)
    rw [show (j + 1) * 3 = j * 3 + 1 + 1 + 1 by omega, show j * 3 + 1 + 1 + 1 + 2 = j * 3 + 2 + 1 + 1 + 1 by omega]
    simpa [tkV] using this
theorem tkV_one : ∀ l : List Tk3, ∀ v ∈ tkV l, v.oneCell' = true
  | [], v, h => by cases h
  | r :: t, v, h => by
    rcases List.mem_cons.1 h with rfl | h
    · rfl
    · skip
      rcases List.mem_cons.1 h with rfl | h
      · rfl
      · skip
        rcases List.mem_cons.1 h with rfl | h
        · rfl
        · exact tkV_one t v h
theorem infoY : (Tryz.prog.info? 64).map (fun i => (i.zero, i.size, i.bytes)) = some (some (.agg #[.int .i64 0, .int .i64 0, .int .i64 0]), 3, 24) := by kernel_rfl
def RdY (w : World) (a : Option Addr) (l : List Tk3) : Prop := 0 < l.length → ∃ g off, a = some ⟨g, off, none⟩ ∧ ∀ j (h : j < l.length), w.cell? ⟨g, off + j * 3, none⟩ = some (.int .i64 l[j].1) ∧ w.cell? ⟨g, off + j * 3 + 1, none⟩ = some (.int .i64 l[j].2.1) ∧ w.cell? ⟨g, off + j * 3 + 2, none⟩ = some (.int .i64 l[j].2.2)
theorem RdY.keep {w w' : World} {a : Option Addr} {l : List Tk3} {B : Nat} (h : RdY w a l) (hb : Below B w w') (hB : w.heap.size ≤ B) : RdY w' a l := fun h0 => by
  obtain ⟨g, off, ha, hc⟩ := h h0
  refine ⟨g, off, ha, fun j hj => ?_⟩
  obtain ⟨h0, h1, h2⟩ := hc j hj
  have hlt := Nat.lt_of_lt_of_le (World.block_lt_of_cell? w ⟨g, off + j * 3, none⟩ h0) hB
  exact ⟨(hb.cell (p := ⟨g, off + j * 3, none⟩) hlt).trans h0, (hb.cell (p := ⟨g, off + j * 3 + 1, none⟩) hlt).trans h1, (hb.cell (p := ⟨g, off + j * 3 + 2, none⟩) hlt).trans h2⟩
theorem RdY.on {w w' : World} {a : Option Addr} {l : List Tk3} (h : RdY w a l) (hb : Below w.heap.size w w') : RdY w' a l := h.keep hb (Nat.le_refl _)
def OwnY (w : World) (B : Nat) (v : Value) (n : Nat) (l : List Tk3) : Prop := w.ownsRow B 64 3 v n (tkV l)
theorem OwnY.len {w : World} {B n : Nat} {v : Value} {l : List Tk3} (h : OwnY w B v n l) : l.length = n := by
  have := h.1; rw [tkV_len] at this; omega
theorem OwnY.rd {w : World} {B n c : Nat} {a : Option Addr} {l : List Tk3} (h : OwnY w B (.slice a n c) n l) : RdY w a l := fun h0 => by
  have hl := h.len
  rcases h.2 with ⟨hv, e⟩ | ⟨g, cap, cur, hv, _⟩
  · omega
  · cases hv
    refine ⟨g, 0, rfl, fun j hj => ?_⟩
    obtain ⟨h0, h1, h2⟩ := tkV_at l j hj
    refine ⟨?_, ?_, ?_⟩
    · rw [Nat.zero_add, h.cellAt (j * 3) (by omega)]; exact h0
    · rw [Nat.zero_add, h.cellAt (j * 3 + 1) (by omega)]; exact h1
    · rw [Nat.zero_add, h.cellAt (j * 3 + 2) (by omega)]; exact h2
theorem tkV_set : ∀ (l : List Tk3) (j : Nat) (x y z : Int), (((tkV l).set (j * 3) (.int .i64 x)).set (j * 3 + 1) (.int .i64 y)).set (j * 3 + 2) (.int .i64 z) = tkV (l.set j (x, y, z))
  | [], j, x, y, z => by simp [tkV]
  | r :: l, 0, x, y, z => by simp [tkV]
  | r :: l, j + 1, x, y, z => by
    have := tkV_set l j x y z
    rw [show (j + 1) * 3 = j * 3 + 1 + 1 + 1 by omega, show j * 3 + 1 + 1 + 1 + 2 = j * 3 + 2 + 1 + 1 + 1 by omega]
    simpa [tkV] using this
def RowY (w : World) (g : Nat) (l : List Tk3) : Prop := w.heap[g]? = some (.cells (tkV l).toArray 64 (0, 0))
theorem RowY.lt {w : World} {g : Nat} {l : List Tk3} (h : RowY w g l) : g < w.heap.size := row_lt h
theorem RowY.on {w w' : World} {g : Nat} {l : List Tk3} (h : RowY w g l) (hb : Below w.heap.size w w') : RowY w' g l := row_after h hb (row_lt h)
theorem RowY.cell {w : World} {g : Nat} {l : List Tk3} (h : RowY w g l) (j : Nat) (hj : j < l.length) : w.cell? ⟨g, j * 3, none⟩ = some (.int .i64 l[j].1) ∧ w.cell? ⟨g, j * 3 + 1, none⟩ = some (.int .i64 l[j].2.1) ∧ w.cell? ⟨g, j * 3 + 2, none⟩ = some (.int .i64 l[j].2.2) := by
  have := tkV_at l j hj
  rw [cell_of_row w g (j * 3) _ _ (0, 0) h, cell_of_row w g (j * 3 + 1) _ _ (0, 0) h, cell_of_row w g (j * 3 + 2) _ _ (0, 0) h]
  simpa using this
theorem RowY.free {w : World} {g : Nat} {l : List Tk3} (h : RowY w g l) (j : Nat) : w.frozen? ⟨g, j, none⟩ = false := frozen_of_row w g j _ _ h
theorem RowY.rd {w : World} {g : Nat} {l : List Tk3} (h : RowY w g l) : RdY w (some ⟨g, 0, none⟩) l := fun _ => ⟨g, 0, rfl, fun j hj => by rw [Nat.zero_add]; exact h.cell j hj⟩
theorem RowY.set {w : World} {g : Nat} {l : List Tk3} (h : RowY w g l) (j : Nat) (x y z : Int) : RowY (((w.setCell ⟨g, j * 3, none⟩ (.int .i64 x)).setCell ⟨g, j * 3 + 1, none⟩ (.int .i64 y)).setCell ⟨g, j * 3 + 2, none⟩ (.int .i64 z)) g (l.set j (x, y, z)) := by
  unfold RowY at h ⊢
  have h1 := heap_setCell_same w g (j * 3) _ _ (.int .i64 x) h
  have h2 := heap_setCell_same _ g (j * 3 + 1) _ _ (.int .i64 y) h1
  rw [heap_setCell_same _ g (j * 3 + 2) _ _ (.int .i64 z) h2, ← tkV_set]
  simp
theorem tkV_zero (n : Nat) : madeCells #[.int .i64 0, .int .i64 0, .int .i64 0] (n * 3) = (tkV (List.replicate n (0, 0, 0))).toArray := by
  apply Array.ext
  · simp [madeCells, tkV_len]
  · intro j h1 h2
    have hj : j < n * 3 := by simpa [madeCells] using h1
    have h0 : j / 3 < n := by omega
    have hr := tkV_at (List.replicate n ((0, 0, 0) : Tk3)) (j / 3) (by simpa using h0)
    have h3 : j % 3 = 0 ∨ j % 3 = 1 ∨ j % 3 = 2 := by omega
    have hz : (tkV (List.replicate n ((0, 0, 0) : Tk3)))[j]? = some (.int .i64 0) := by
      rcases h3 with e | e | e
      · have := hr.1
        rw [show j / 3 * 3 = j by omega] at this
        simpa using this
      · have := hr.2.1
        rw [show j / 3 * 3 + 1 = j by omega] at this
        simpa using this
      · have := hr.2.2
        rw [show j / 3 * 3 + 2 = j by omega] at this
        simpa using this
    have hl : (madeCells #[Value.int .i64 0, .int .i64 0, .int .i64 0] (n * 3))[j] = .int .i64 0 := by
      rcases h3 with e | e | e <;> simp [madeCells, e]
    rw [hl]
    have hj2 : j < (tkV (List.replicate n ((0, 0, 0) : Tk3))).length := by simpa using h2
    rw [List.getElem?_eq_getElem hj2] at hz
    simpa using (Option.some.inj hz).symm
theorem makeY (n : Nat) (hn : n ≤ 1048576) (w : World) : (Instr.makeSlice 35 (.int .i64 n) (.int .i64 n)).run Tryz.prog w = .ok (.slice (some ⟨w.heap.size, 0, none⟩) n n) (w.alloc (.cells (tkV (List.replicate n (0, 0, 0))).toArray 64)) := by
  obtain ⟨i0, hi, hz0, hz1, hz2⟩ := info_parts infoY
  have h := run_make (P := Tryz.prog) w 35 64 i0 _ Tryz.underlying35 hi hz0 .i64 .i64 n n (by omega) (Int.le_refl _) (by rw [hz2]; omega) (by omega)
  rw [hz1, Int.toNat_natCast, show (Value.agg #[.int .i64 0, .int .i64 0, .int .i64 0]).cells = #[.int .i64 0, .int .i64 0, .int .i64 0] from rfl, tkV_zero] at h
  exact h
theorem eqY (x y z : Int) (w : World) : Calls Tryz.prog 120 #[.agg #[.int .i64 x, .int .i64 y, .int .i64 z], .agg #[.int .i64 x, .int .i64 y, .int .i64 z]] w fun e w' => e = .returned (.bool true) ∧ Below w.heap.size w w' := by
  go_enter Tryz.func120, Tryz.ntmps120
  go_wp2
  go_ret
  exact ⟨rfl, ((Below.refl _ _).alloc (Nat.le_refl _) _).alloc (by simp) _⟩
theorem keepY {w W W' : World} {b c o m : Nat} {x y z x' y' z' : Value} (hb : Below W.heap.size W W') (h : W.cell? ⟨b, o, none⟩ = some x ∧ W.cell? ⟨b, o + 1, none⟩ = some y ∧ W.cell? ⟨b, o + 2, none⟩ = some z ∧ W.cell? ⟨c, m, none⟩ = some x' ∧ W.cell? ⟨c, m + 1, none⟩ = some y' ∧ W.cell? ⟨c, m + 2, none⟩ = some z' ∧ Below w.heap.size w W) :
    W'.cell? ⟨b, o, none⟩ = some x ∧ W'.cell? ⟨b, o + 1, none⟩ = some y ∧ W'.cell? ⟨b, o + 2, none⟩ = some z ∧ W'.cell? ⟨c, m, none⟩ = some x' ∧ W'.cell? ⟨c, m + 1, none⟩ = some y' ∧ W'.cell? ⟨c, m + 2, none⟩ = some z' ∧ Below w.heap.size w W' := by
  obtain ⟨h0, h1, h2, h3, h4, h5, h6⟩ := h
  have l1 := World.block_lt_of_cell? W ⟨b, o, none⟩ h0
  have l2 := World.block_lt_of_cell? W ⟨c, m, none⟩ h3
  exact ⟨(hb.cell (p := ⟨b, o, none⟩) l1).trans h0, (hb.cell (p := ⟨b, o + 1, none⟩) l1).trans h1, (hb.cell (p := ⟨b, o + 2, none⟩) l1).trans h2, (hb.cell (p := ⟨c, m, none⟩) l2).trans h3, (hb.cell (p := ⟨c, m + 1, none⟩) l2).trans h4, (hb.cell (p := ⟨c, m + 2, none⟩) l2).trans h5, h6.trans (hb.mono h6.size)⟩
theorem eqYs (a b : Option Addr) (l : List Tk3) (n ca cb : Nat) (hl : l.length = n) (hn : n ≤ 1048576) (w : World) (ha : RdY w a l) (hb : RdY w b l) :
    Calls Tryz.prog 68 #[.slice a n ca, .slice b n cb] w fun e w' => e = .returned (.bool true) ∧ Below w.heap.size w w' := by
  have HL : Hid (l.length = n) := hl
  clear hl
  by_cases hp : 0 < n
  · obtain ⟨ga, oa, rfl, hca⟩ := ha (by have := HL.out; omega)
    obtain ⟨gb, ob, rfl, hcb⟩ := hb (by have := HL.out; omega)
    have HA : Hid (∀ j (h : j < l.length), w.cell? ⟨ga, oa + j * 3, none⟩ = some (.int .i64 l[j].1) ∧ w.cell? ⟨ga, oa + j * 3 + 1, none⟩ = some (.int .i64 l[j].2.1) ∧ w.cell? ⟨ga, oa + j * 3 + 2, none⟩ = some (.int .i64 l[j].2.2)) := hca
    have HB : Hid (∀ j (h : j < l.length), w.cell? ⟨gb, ob + j * 3, none⟩ = some (.int .i64 l[j].1) ∧ w.cell? ⟨gb, ob + j * 3 + 1, none⟩ = some (.int .i64 l[j].2.1) ∧ w.cell? ⟨gb, ob + j * 3 + 2, none⟩ = some (.int .i64 l[j].2.2)) := hcb
    have la : ga < w.heap.size := World.block_lt_of_cell? w ⟨ga, oa + 0 * 3, none⟩ (hca 0 (by have := HL.out; omega)).1
    have lb : gb < w.heap.size := World.block_lt_of_cell? w ⟨gb, ob + 0 * 3, none⟩ (hcb 0 (by have := HL.out; omega)).1
    clear ha hb hca hcb
    go_enter Tryz.func68, Tryz.ntmps68
    go_wp2
    go_loopg [5] n (fun gk i wr => ∃ j : Nat, j + gk = n ∧ i = .int .i64 j ∧ Hid (Below w.heap.size w wr))
    case atStart => exact ⟨0, by omega, rfl, Below.refl _ _⟩
    case round =>
      obtain ⟨j, hj, rfl, HW⟩ := hrel
      by_cases hlt : j < n
      · have hjl : j < l.length := by have := HL.out; omega
        have c := HA.out j hjl
        have d := HB.out j hjl
        have c0 := (HW.out.cell (p := ⟨ga, oa + j * 3, none⟩) la).trans c.1
        have d0 := (HW.out.cell (p := ⟨gb, ob + j * 3, none⟩) lb).trans d.1
        have c1 := (HW.out.cell (p := ⟨ga, oa + j * 3 + 1, none⟩) la).trans c.2.1
        have d1 := (HW.out.cell (p := ⟨gb, ob + j * 3 + 1, none⟩) lb).trans d.2.1
        have c2 := (HW.out.cell (p := ⟨ga, oa + j * 3 + 2, none⟩) la).trans c.2.2
        have d2 := (HW.out.cell (p := ⟨gb, ob + j * 3 + 2, none⟩) lb).trans d.2.2
        clear c d
        generalize l[j].1 = x at *
        generalize l[j].2.1 = y at *
        generalize l[j].2.2 = z at *
        have i0 : (0 : Int) ≤ (j : Int) := by omega
        have i1 : (j : Int) < (n : Int) := by omega
        have HC : Hid (wr.cell? ⟨ga, oa + j * 3, none⟩ = some (.int .i64 x) ∧ wr.cell? ⟨ga, oa + j * 3 + 1, none⟩ = some (.int .i64 y) ∧ wr.cell? ⟨ga, oa + j * 3 + 2, none⟩ = some (.int .i64 z) ∧ wr.cell? ⟨gb, ob + j * 3, none⟩ = some (.int .i64 x) ∧ wr.cell? ⟨gb, ob + j * 3 + 1, none⟩ = some (.int .i64 y) ∧ wr.cell? ⟨gb, ob + j * 3 + 2, none⟩ = some (.int .i64 z) ∧ Below w.heap.size w wr) := ⟨c0, c1, c2, d0, d1, d2, HW.out⟩
        clear c0 d0 c1 d1 c2 d2 hjl
        go_wp2
        go_region_held3 (fun w' => w'.cell? ⟨ga, oa + j * 3, none⟩ = some (.int .i64 x) ∧ w'.cell? ⟨ga, oa + j * 3 + 1, none⟩ = some (.int .i64 y) ∧ w'.cell? ⟨ga, oa + j * 3 + 2, none⟩ = some (.int .i64 z) ∧ w'.cell? ⟨gb, ob + j * 3, none⟩ = some (.int .i64 x) ∧ w'.cell? ⟨gb, ob + j * 3 + 1, none⟩ = some (.int .i64 y) ∧ w'.cell? ⟨gb, ob + j * 3 + 2, none⟩ = some (.int .i64 z) ∧ Below w.heap.size w w') (first | (refine keepY (by assumption) ?_; assumption) | (exact ⟨HC.out.1, HC.out.2.1, HC.out.2.2.1, HC.out.2.2.2.1, HC.out.2.2.2.2.1, HC.out.2.2.2.2.2.1, HC.out.2.2.2.2.2.2.drew⟩)) (first | (go_at_call 120; refine (eqY x y z _).mono ?_; rintro e w2 ⟨rfl, hb2⟩))
        rename_i HH
        have HW2 : Hid (Below w.heap.size w w2) := HH.2.2.2.2.2.2
        clear HH hb2 HC HW
        go_wp2
        go_roundg (gk - 1)
        case measure => omega
        case rel => exact ⟨j + 1, by omega, by go_num, HW2⟩
      · go_wp2
        go_ret
        exact ⟨rfl, HW.out⟩
  · obtain rfl : n = 0 := by omega
    clear ha hb
    go_enter Tryz.func68, Tryz.ntmps68
    go_wp2
    go_rounds 1
    go_ret
    exact ⟨rfl, Below.refl _ _⟩
end Go.Proofs.YtfhhnelffldggaaGreatDoor
namespace Go.Proofs.YtfhhnelffldggaaGreatDoor
open Go.RowKit Go.PlainAid
set_option linter.unusedVariables false
set_option linter.unusedSimpArgs false
theorem topS (m : Mn) (key : Int) (r : Pr) (hr : topM m key = r) (w : World) : Calls Tryz.prog 154 #[mnV m, .int .i64 key] w fun e w' => e = .returned (.tuple #[mnV r.m, ordV r.k r.n r.d r.v, .bool r.t]) ∧ Below w.heap.size w w' := by
  obtain ⟨a, b, n, d, s⟩ := m
  obtain ⟨S, hS⟩ : ∃ S : ByteArray, (⟨s.toArray⟩ : ByteArray) = S := ⟨_, rfl⟩
  obtain ⟨h1, h2, h3, h4, h5⟩ := box3m w (.cells #[.int .i64 a, .bool b, .int .i64 n, .int .i64 d, .string S] 34) (.cells #[.int .i64 0, .bool false, .int .i64 0, .int .i64 0, .string ⟨#[]⟩] 34) (oB 0 0 0 0)
  have HP0 : Hid (_ = _) := h1
  have HZ0 : Hid (_ = _) := h2
  have HO0 : Hid (_ = _) := h3
  have HB0 : Hid (Below _ _ _) := h4
  have p0 := box5_cells h1
  clear h1 h2 h3 h4 h5
  unfold mnV ordV
  dsimp only
  rw [hS]
  have HR : Hid (topM ⟨a, b, n, d, s⟩ key = r) := hr
  clear hr
  go_enter Tryz.func154, Tryz.ntmps154
  by_cases k98 : key = 98
  · obtain rfl : noP ⟨2, false, 0, 0, []⟩ = r := by rw [← HR.out]; unfold topM; simp [k98]
    clear HR
    subst k98
    dsimp only [noP]
    try rw [hS]
    clear hS
    go_upto_region 3 with fail
    go_wp2_with (refine listStoreM rfl rfl _ _ _ rfl rfl (w.heap.size + 1) (2) (false) (0) (0) (⟨#[]⟩) rfl rfl HZ0.out ?_)
    intro w8 hput
    have HB8 : Hid (Below w.heap.size w w8) := hput.2.2.2 _ _ (Nat.le_succ _) HB0.out
    have HO8 : Hid (w8.heap[w.heap.size + 2]? = some (oB 0 0 0 0)) := hput.far HO0.out (by omega)
    have HZ8 : Hid (w8.heap[w.heap.size + 1]? = some (.cells #[.int .i64 2, .bool false, .int .i64 0, .int .i64 0, .string ⟨#[]⟩] 34)) := hput.1
    clear hput
    go_wp2_with (refine listStoreO rfl rfl _ _ _ rfl rfl (w.heap.size + 2) (0) (0) (0) (0) rfl rfl HO8.out ?_)
    intro w9 hput
    have HB9 : Hid (Below w.heap.size w w9) := hput.2.2.2 _ _ (by omega) HB8.out
    have zz := box5_cells (hput.far HZ8.out (by omega))
    have yy := box4_cells hput.1
    clear hput HB8 HO8 HZ8
    go_wp2
    refine bodyPost_ret (v := .tuple #[.agg #[.int .i64 2, .bool false, .int .i64 0, .int .i64 0, .string ⟨#[]⟩], .agg #[.int .i64 0, .int .i64 0, .int .i64 0, .int .i64 0], .bool false]) (by simp only [results, Tryz.results154]; simp [go_sem, zz, yy]) rfl ⟨rfl, HB9.out⟩
  have q98 : (key == 98) = false := by simpa using k98
  by_cases k111 : key = 111
  · obtain rfl : noP ⟨4, true, 0, 0, []⟩ = r := by rw [← HR.out]; unfold topM; simp [k111]
    clear HR
    subst k111
    dsimp only [noP]
    try rw [hS]
    clear hS
    go_upto_region 5 with fail
    go_wp2_with (refine listStoreM rfl rfl _ _ _ rfl rfl (w.heap.size + 1) (4) (true) (0) (0) (⟨#[]⟩) rfl rfl HZ0.out ?_)
    intro w8 hput
    have HB8 : Hid (Below w.heap.size w w8) := hput.2.2.2 _ _ (Nat.le_succ _) HB0.out
    have HO8 : Hid (w8.heap[w.heap.size + 2]? = some (oB 0 0 0 0)) := hput.far HO0.out (by omega)
    have HZ8 : Hid (w8.heap[w.heap.size + 1]? = some (.cells #[.int .i64 4, .bool true, .int .i64 0, .int .i64 0, .string ⟨#[]⟩] 34)) := hput.1
    clear hput
    go_wp2_with (refine listStoreO rfl rfl _ _ _ rfl rfl (w.heap.size + 2) (0) (0) (0) (0) rfl rfl HO8.out ?_)
    intro w9 hput
    have HB9 : Hid (Below w.heap.size w w9) := hput.2.2.2 _ _ (by omega) HB8.out
    have zz := box5_cells (hput.far HZ8.out (by omega))
    have yy := box4_cells hput.1
    clear hput HB8 HO8 HZ8
    go_wp2
    refine bodyPost_ret (v := .tuple #[.agg #[.int .i64 4, .bool true, .int .i64 0, .int .i64 0, .string ⟨#[]⟩], .agg #[.int .i64 0, .int .i64 0, .int .i64 0, .int .i64 0], .bool false]) (by simp only [results, Tryz.results154]; simp [go_sem, zz, yy]) rfl ⟨rfl, HB9.out⟩
  have q111 : (key == 111) = false := by simpa using k111
  by_cases k112 : key = 112
  · obtain rfl : ⟨⟨a, b, n, d, s⟩, 3, 0, 0, 0, true⟩ = r := by rw [← HR.out]; unfold topM; simp [k112]
    clear HR
    subst k112
    dsimp only [noP]
    try rw [hS]
    clear hS
    go_upto_region 7 with fail
    go_wp2_with (refine listStoreM rfl rfl _ _ _ rfl rfl (w.heap.size + 1) (a) (b) (n) (d) (S) rfl rfl HZ0.out ?_)
    intro w8 hput
    have HB8 : Hid (Below w.heap.size w w8) := hput.2.2.2 _ _ (Nat.le_succ _) HB0.out
    have HO8 : Hid (w8.heap[w.heap.size + 2]? = some (oB 0 0 0 0)) := hput.far HO0.out (by omega)
    have HZ8 : Hid (w8.heap[w.heap.size + 1]? = some (.cells #[.int .i64 a, .bool b, .int .i64 n, .int .i64 d, .string S] 34)) := hput.1
    clear hput
    go_wp2_with (refine listStoreO rfl rfl _ _ _ rfl rfl (w.heap.size + 2) (3) (0) (0) (0) rfl rfl HO8.out ?_)
    intro w9 hput
    have HB9 : Hid (Below w.heap.size w w9) := hput.2.2.2 _ _ (by omega) HB8.out
    have zz := box5_cells (hput.far HZ8.out (by omega))
    have yy := box4_cells hput.1
    clear hput HB8 HO8 HZ8
    go_wp2
    refine bodyPost_ret (v := .tuple #[.agg #[.int .i64 a, .bool b, .int .i64 n, .int .i64 d, .string S], .agg #[.int .i64 3, .int .i64 0, .int .i64 0, .int .i64 0], .bool true]) (by simp only [results, Tryz.results154]; simp [go_sem, zz, yy]) rfl ⟨rfl, HB9.out⟩
  have q112 : (key == 112) = false := by simpa using k112
  by_cases k103 : key = 103
  · obtain rfl : ⟨⟨a, b, n, d, s⟩, 4, 0, 0, 0, true⟩ = r := by rw [← HR.out]; unfold topM; simp [k103]
    clear HR
    subst k103
    dsimp only [noP]
    try rw [hS]
    clear hS
    go_upto_region 9 with fail
    go_wp2_with (refine listStoreM rfl rfl _ _ _ rfl rfl (w.heap.size + 1) (a) (b) (n) (d) (S) rfl rfl HZ0.out ?_)
    intro w8 hput
    have HB8 : Hid (Below w.heap.size w w8) := hput.2.2.2 _ _ (Nat.le_succ _) HB0.out
    have HO8 : Hid (w8.heap[w.heap.size + 2]? = some (oB 0 0 0 0)) := hput.far HO0.out (by omega)
    have HZ8 : Hid (w8.heap[w.heap.size + 1]? = some (.cells #[.int .i64 a, .bool b, .int .i64 n, .int .i64 d, .string S] 34)) := hput.1
    clear hput
    go_wp2_with (refine listStoreO rfl rfl _ _ _ rfl rfl (w.heap.size + 2) (4) (0) (0) (0) rfl rfl HO8.out ?_)
    intro w9 hput
    have HB9 : Hid (Below w.heap.size w w9) := hput.2.2.2 _ _ (by omega) HB8.out
    have zz := box5_cells (hput.far HZ8.out (by omega))
    have yy := box4_cells hput.1
    clear hput HB8 HO8 HZ8
    go_wp2
    refine bodyPost_ret (v := .tuple #[.agg #[.int .i64 a, .bool b, .int .i64 n, .int .i64 d, .string S], .agg #[.int .i64 4, .int .i64 0, .int .i64 0, .int .i64 0], .bool true]) (by simp only [results, Tryz.results154]; simp [go_sem, zz, yy]) rfl ⟨rfl, HB9.out⟩
  have q103 : (key == 103) = false := by simpa using k103
  by_cases k115 : key = 115
  · obtain rfl : ⟨⟨a, b, n, d, s⟩, 5, 0, 0, 0, true⟩ = r := by rw [← HR.out]; unfold topM; simp [k115]
    clear HR
    subst k115
    dsimp only [noP]
    try rw [hS]
    clear hS
    go_upto_region 11 with fail
    go_wp2_with (refine listStoreM rfl rfl _ _ _ rfl rfl (w.heap.size + 1) (a) (b) (n) (d) (S) rfl rfl HZ0.out ?_)
    intro w8 hput
    have HB8 : Hid (Below w.heap.size w w8) := hput.2.2.2 _ _ (Nat.le_succ _) HB0.out
    have HO8 : Hid (w8.heap[w.heap.size + 2]? = some (oB 0 0 0 0)) := hput.far HO0.out (by omega)
    have HZ8 : Hid (w8.heap[w.heap.size + 1]? = some (.cells #[.int .i64 a, .bool b, .int .i64 n, .int .i64 d, .string S] 34)) := hput.1
    clear hput
    go_wp2_with (refine listStoreO rfl rfl _ _ _ rfl rfl (w.heap.size + 2) (5) (0) (0) (0) rfl rfl HO8.out ?_)
    intro w9 hput
    have HB9 : Hid (Below w.heap.size w w9) := hput.2.2.2 _ _ (by omega) HB8.out
    have zz := box5_cells (hput.far HZ8.out (by omega))
    have yy := box4_cells hput.1
    clear hput HB8 HO8 HZ8
    go_wp2
    refine bodyPost_ret (v := .tuple #[.agg #[.int .i64 a, .bool b, .int .i64 n, .int .i64 d, .string S], .agg #[.int .i64 5, .int .i64 0, .int .i64 0, .int .i64 0], .bool true]) (by simp only [results, Tryz.results154]; simp [go_sem, zz, yy]) rfl ⟨rfl, HB9.out⟩
  have q115 : (key == 115) = false := by simpa using k115
  by_cases k120 : key = 120
  · obtain rfl : ⟨⟨a, b, n, d, s⟩, 6, 0, 0, 0, true⟩ = r := by rw [← HR.out]; unfold topM; simp [k120]
    clear HR
    subst k120
    dsimp only [noP]
    try rw [hS]
    clear hS
    go_upto_region 13 with fail
    go_wp2_with (refine listStoreM rfl rfl _ _ _ rfl rfl (w.heap.size + 1) (a) (b) (n) (d) (S) rfl rfl HZ0.out ?_)
    intro w8 hput
    have HB8 : Hid (Below w.heap.size w w8) := hput.2.2.2 _ _ (Nat.le_succ _) HB0.out
    have HO8 : Hid (w8.heap[w.heap.size + 2]? = some (oB 0 0 0 0)) := hput.far HO0.out (by omega)
    have HZ8 : Hid (w8.heap[w.heap.size + 1]? = some (.cells #[.int .i64 a, .bool b, .int .i64 n, .int .i64 d, .string S] 34)) := hput.1
    clear hput
    go_wp2_with (refine listStoreO rfl rfl _ _ _ rfl rfl (w.heap.size + 2) (6) (0) (0) (0) rfl rfl HO8.out ?_)
    intro w9 hput
    have HB9 : Hid (Below w.heap.size w w9) := hput.2.2.2 _ _ (by omega) HB8.out
    have zz := box5_cells (hput.far HZ8.out (by omega))
    have yy := box4_cells hput.1
    clear hput HB8 HO8 HZ8
    go_wp2
    refine bodyPost_ret (v := .tuple #[.agg #[.int .i64 a, .bool b, .int .i64 n, .int .i64 d, .string S], .agg #[.int .i64 6, .int .i64 0, .int .i64 0, .int .i64 0], .bool true]) (by simp only [results, Tryz.results154]; simp [go_sem, zz, yy]) rfl ⟨rfl, HB9.out⟩
  have q120 : (key == 120) = false := by simpa using k120
  obtain rfl : noP ⟨a, b, n, d, s⟩ = r := by rw [← HR.out]; unfold topM; simp [k98, k111, k112, k103, k115, k120]
  clear HR k98 k111 k112 k103 k115 k120
  dsimp only [noP]
  rw [hS]
  clear hS
  go_upto_region 14 with fail
  go_wp2_with (refine listStoreM rfl rfl _ _ _ rfl rfl (w.heap.size + 1) (a) (b) (n) (d) (S) rfl rfl HZ0.out ?_)
  intro w8 hput
  have HB8 : Hid (Below w.heap.size w w8) := hput.2.2.2 _ _ (Nat.le_succ _) HB0.out
  have HO8 : Hid (w8.heap[w.heap.size + 2]? = some (oB 0 0 0 0)) := hput.far HO0.out (by omega)
  have HZ8 : Hid (w8.heap[w.heap.size + 1]? = some (.cells #[.int .i64 a, .bool b, .int .i64 n, .int .i64 d, .string S] 34)) := hput.1
  clear hput
  go_wp2_with (refine listStoreO rfl rfl _ _ _ rfl rfl (w.heap.size + 2) (0) (0) (0) (0) rfl rfl HO8.out ?_)
  intro w9 hput
  have HB9 : Hid (Below w.heap.size w w9) := hput.2.2.2 _ _ (by omega) HB8.out
  have zz := box5_cells (hput.far HZ8.out (by omega))
  have yy := box4_cells hput.1
  clear hput HB8 HO8 HZ8
  go_wp2
  refine bodyPost_ret (v := .tuple #[.agg #[.int .i64 a, .bool b, .int .i64 n, .int .i64 d, .string S], .agg #[.int .i64 0, .int .i64 0, .int .i64 0, .int .i64 0], .bool false]) (by simp only [results, Tryz.results154]; simp [go_sem, zz, yy]) rfl ⟨rfl, HB9.out⟩
end Go.Proofs.YtfhhnelffldggaaGreatDoor
namespace Go.Proofs.YtfhhnelffldggaaGreatDoor
open Go.ChangeShapes Go.WideShapes Go.ChangeAt Go.RowKit Go.PlainAid
set_option linter.unusedVariables false
theorem grown_setc {w W : World} {g i : Nat} (h : w.grownBy W (some g)) (u : Value) : w.grownBy (W.setCell ⟨g, i, none⟩ u) (some g) := by
  have hs : (W.setCell ⟨g, i, none⟩ u).heap.size = W.heap.size := by simp
  exact ⟨h.os, h.tape, h.output, by rw [hs]; exact h.size, fun m hm hne => (Below.heap_setCell _ _ _ _ (show m ≠ g from fun e => hne (by rw [e]))).trans (h.block m hm hne)⟩
end Go.Proofs.YtfhhnelffldggaaGreatDoor
