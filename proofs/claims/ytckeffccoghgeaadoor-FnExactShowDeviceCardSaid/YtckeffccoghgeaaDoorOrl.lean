/-
  Lists of Orders: in memory, read, copied, compared, sized.
-/
import Derived.Test.YtckeffccoghgeaaDoorMnA
import Derived.Deep.Slices
import Derived.OpenShut
import Derived.Maps.AppendAt
import Derived.Laws.AppendOwnNone
namespace Go.Proofs.YtckeffccoghgeaaDoor
open Go.ChangeShapes Go.WideShapes Go.ChangeAt Go.RowKit Go.PlainAid
set_option linter.unusedVariables false

theorem row_after {w W' : World} {k B : Nat} {o : Obj} (h : w.heap[k]? = some o) (hb : Below B w W') (hk : k < B) : W'.heap[k]? = some o := (hb.block k hk).trans h
theorem add_at (g o j : Nat) : (⟨g, o, none⟩ : Addr).add j = ⟨g, o + j, none⟩ := by
  unfold Addr.add; split <;> simp_all
theorem own_lt {w : World} {B e z n : Nat} {v : Value} {xs : List Value} (h : w.ownsRow B e z v n xs) : ∀ g, v.ownBlock = some g → g < w.heap.size := fun k hk => (h.lt k hk).2
theorem own_ge {w : World} {B e z n : Nat} {v : Value} {xs : List Value} (h : w.ownsRow B e z v n xs) : ∀ g, v.ownBlock = some g → B ≤ g := fun k hk => (h.lt k hk).1
/-- what lies below the line stays owned -/
theorem own_keep {w w' : World} {B C e z n : Nat} {v : Value} {xs : List Value} (h : w.ownsRow B e z v n xs) (hb : Below C w w') (hlt : ∀ g, v.ownBlock = some g → g < C) : w'.ownsRow B e z v n xs := by
  refine ⟨h.1, ?_⟩
  rcases h.2 with h2 | ⟨g, cap, cur, rfl, hg, hh, h3⟩
  · exact .inl h2
  · exact .inr ⟨g, cap, cur, rfl, hg, by rw [hb.block g (hlt g rfl)]; exact hh, h3⟩
theorem own_mono {w : World} {B C e z n : Nat} {v : Value} {xs : List Value} (h : w.ownsRow B e z v n xs) (hC : C ≤ B) : w.ownsRow C e z v n xs := by
  refine ⟨h.1, ?_⟩
  rcases h.2 with h2 | ⟨g, cap, cur, rfl, hg, h3⟩
  · exact .inl h2
  · exact .inr ⟨g, cap, cur, rfl, by omega, h3⟩
theorem own_shapeW {w : World} {B e z n : Nat} {v : Value} {xs : List Value} (h : w.ownsRow B e z v n xs) : ∃ a cap, v = .slice a n cap := by
  rcases h.2 with ⟨rfl, e⟩ | ⟨g, cap, cur, rfl, _⟩
  · exact ⟨none, 0, by rw [e]⟩
  · exact ⟨_, cap, rfl⟩
def odV : List Od4 → List Value
  | [] => []
  | r :: t => .int .i64 r.1 :: .int .i64 r.2.1 :: .int .i64 r.2.2.1 :: .int .i64 r.2.2.2 :: odV t
theorem odV_len : ∀ l : List Od4, (odV l).length = l.length * 4
  | [] => rfl
  | r :: t => by simp [odV, odV_len t]; omega
theorem odV_append : ∀ x y : List Od4, odV (x ++ y) = odV x ++ odV y
  | [], y => rfl
  | r :: t, y => by simp [odV, odV_append t y]
theorem odV_at : ∀ (l : List Od4) (j : Nat) (h : j < l.length), (odV l)[j * 4]? = some (.int .i64 l[j].1) ∧ (odV l)[j * 4 + 1]? = some (.int .i64 l[j].2.1) ∧ (odV l)[j * 4 + 2]? = some (.int .i64 l[j].2.2.1) ∧ (odV l)[j * 4 + 3]? = some (.int .i64 l[j].2.2.2)
  | [], j, h => by simp at h
  | r :: t, 0, h => by simp [odV]
  | r :: t, j + 1, h => by
    have := odV_at t j (by simpa using h)
    rw [show (j + 1) * 4 = j * 4 + 1 + 1 + 1 + 1 by omega, show j * 4 + 1 + 1 + 1 + 1 + 2 = j * 4 + 2 + 1 + 1 + 1 + 1 by omega, show j * 4 + 1 + 1 + 1 + 1 + 3 = j * 4 + 3 + 1 + 1 + 1 + 1 by omega]
    simpa [odV] using this
theorem odV_one : ∀ l : List Od4, ∀ v ∈ odV l, v.oneCell' = true
  | [], v, h => by cases h
  | r :: t, v, h => by
    rcases List.mem_cons.1 h with rfl | h
    · rfl
    · skip
      rcases List.mem_cons.1 h with rfl | h
      · rfl
      · skip
        rcases List.mem_cons.1 h with rfl | h
        · rfl
        · skip
          rcases List.mem_cons.1 h with rfl | h
          · rfl
          · exact odV_one t v h
theorem infoQ : (Tryd.prog.info? 139).map (fun i => (i.zero, i.size, i.bytes)) = some (some (.agg #[.int .i64 0, .int .i64 0, .int .i64 0, .int .i64 0]), 4, 32) := by kernel_rfl
theorem boxQ_cells {w : World} {k : Nat} {t : TypeId} {x y z u : Value} (h : w.heap[k]? = some (.cells #[x, y, z, u] t)) :
    (w.cell? ⟨k, 0, none⟩ = some x ∧ w.cell? ⟨k, 1, none⟩ = some y ∧ w.cell? ⟨k, 2, none⟩ = some z ∧ w.cell? ⟨k, 3, none⟩ = some u) ∧ w.frozen? ⟨k, 0, none⟩ = false ∧ w.frozen? ⟨k, 1, none⟩ = false ∧ w.frozen? ⟨k, 2, none⟩ = false ∧ w.frozen? ⟨k, 3, none⟩ = false := by
  refine ⟨⟨?_, ?_, ?_, ?_⟩, ?_, ?_, ?_, ?_⟩ <;> simp [World.cell?, World.frozen?, h]
/-- a list that is read, wherever it lies -/
def RdQ (w : World) (a : Option Addr) (l : List Od4) : Prop := 0 < l.length → ∃ g off, a = some ⟨g, off, none⟩ ∧ ∀ j (h : j < l.length), w.cell? ⟨g, off + j * 4, none⟩ = some (.int .i64 l[j].1) ∧ w.cell? ⟨g, off + j * 4 + 1, none⟩ = some (.int .i64 l[j].2.1) ∧ w.cell? ⟨g, off + j * 4 + 2, none⟩ = some (.int .i64 l[j].2.2.1) ∧ w.cell? ⟨g, off + j * 4 + 3, none⟩ = some (.int .i64 l[j].2.2.2)
theorem RdQ.keep {w w' : World} {a : Option Addr} {l : List Od4} {B : Nat} (h : RdQ w a l) (hb : Below B w w') (hB : w.heap.size ≤ B) : RdQ w' a l := fun h0 => by
  obtain ⟨g, off, ha, hc⟩ := h h0
  refine ⟨g, off, ha, fun j hj => ?_⟩
  obtain ⟨h0, h1, h2, h3⟩ := hc j hj
  have hlt := Nat.lt_of_lt_of_le (World.block_lt_of_cell? w ⟨g, off + j * 4, none⟩ h0) hB
  exact ⟨(hb.cell (p := ⟨g, off + j * 4, none⟩) hlt).trans h0, (hb.cell (p := ⟨g, off + j * 4 + 1, none⟩) hlt).trans h1, (hb.cell (p := ⟨g, off + j * 4 + 2, none⟩) hlt).trans h2, (hb.cell (p := ⟨g, off + j * 4 + 3, none⟩) hlt).trans h3⟩
theorem RdQ.on {w w' : World} {a : Option Addr} {l : List Od4} (h : RdQ w a l) (hb : Below w.heap.size w w') : RdQ w' a l := h.keep hb (Nat.le_refl _)
/-- an owned list -/
def OwnQ (w : World) (B : Nat) (v : Value) (n : Nat) (l : List Od4) : Prop := w.ownsRow B 139 4 v n (odV l)
theorem OwnQ.len {w : World} {B n : Nat} {v : Value} {l : List Od4} (h : OwnQ w B v n l) : l.length = n := by
  have := h.1; rw [odV_len] at this; omega
theorem OwnQ.rd {w : World} {B n c : Nat} {a : Option Addr} {l : List Od4} (h : OwnQ w B (.slice a n c) n l) : RdQ w a l := fun h0 => by
  have hl := h.len
  rcases h.2 with ⟨hv, e⟩ | ⟨g, cap, cur, hv, _⟩
  · omega
  · cases hv
    refine ⟨g, 0, rfl, fun j hj => ?_⟩
    obtain ⟨h0, h1, h2, h3⟩ := odV_at l j hj
    refine ⟨?_, ?_, ?_, ?_⟩
    · rw [Nat.zero_add, h.cellAt (j * 4) (by omega)]; exact h0
    · rw [Nat.zero_add, h.cellAt (j * 4 + 1) (by omega)]; exact h1
    · rw [Nat.zero_add, h.cellAt (j * 4 + 2) (by omega)]; exact h2
    · rw [Nat.zero_add, h.cellAt (j * 4 + 3) (by omega)]; exact h3
theorem odV_set : ∀ (l : List Od4) (j : Nat) (x y z u : Int), ((((odV l).set (j * 4) (.int .i64 x)).set (j * 4 + 1) (.int .i64 y)).set (j * 4 + 2) (.int .i64 z)).set (j * 4 + 3) (.int .i64 u) = odV (l.set j (x, y, z, u))
  | [], j, x, y, z, u => by simp [odV]
  | r :: l, 0, x, y, z, u => by simp [odV]
  | r :: l, j + 1, x, y, z, u => by
    have := odV_set l j x y z u
    rw [show (j + 1) * 4 = j * 4 + 1 + 1 + 1 + 1 by omega, show j * 4 + 1 + 1 + 1 + 1 + 2 = j * 4 + 2 + 1 + 1 + 1 + 1 by omega, show j * 4 + 1 + 1 + 1 + 1 + 3 = j * 4 + 3 + 1 + 1 + 1 + 1 by omega]
    simpa [odV] using this
/-- a block that is such a list, whole -/
def RowQ (w : World) (g : Nat) (l : List Od4) : Prop := w.heap[g]? = some (.cells (odV l).toArray 139 (0, 0))
theorem RowQ.lt {w : World} {g : Nat} {l : List Od4} (h : RowQ w g l) : g < w.heap.size := row_lt h
theorem RowQ.on {w w' : World} {g : Nat} {l : List Od4} (h : RowQ w g l) (hb : Below w.heap.size w w') : RowQ w' g l := row_after h hb (row_lt h)
theorem RowQ.cell {w : World} {g : Nat} {l : List Od4} (h : RowQ w g l) (j : Nat) (hj : j < l.length) : w.cell? ⟨g, j * 4, none⟩ = some (.int .i64 l[j].1) ∧ w.cell? ⟨g, j * 4 + 1, none⟩ = some (.int .i64 l[j].2.1) ∧ w.cell? ⟨g, j * 4 + 2, none⟩ = some (.int .i64 l[j].2.2.1) ∧ w.cell? ⟨g, j * 4 + 3, none⟩ = some (.int .i64 l[j].2.2.2) := by
  have := odV_at l j hj
  rw [cell_of_row w g (j * 4) _ _ (0, 0) h, cell_of_row w g (j * 4 + 1) _ _ (0, 0) h, cell_of_row w g (j * 4 + 2) _ _ (0, 0) h, cell_of_row w g (j * 4 + 3) _ _ (0, 0) h]
  simpa using this
theorem RowQ.free {w : World} {g : Nat} {l : List Od4} (h : RowQ w g l) (j : Nat) : w.frozen? ⟨g, j, none⟩ = false := frozen_of_row w g j _ _ h
theorem RowQ.rd {w : World} {g : Nat} {l : List Od4} (h : RowQ w g l) : RdQ w (some ⟨g, 0, none⟩) l := fun _ => ⟨g, 0, rfl, fun j hj => by rw [Nat.zero_add]; exact h.cell j hj⟩
theorem RowQ.set {w : World} {g : Nat} {l : List Od4} (h : RowQ w g l) (j : Nat) (x y z u : Int) : RowQ ((((w.setCell ⟨g, j * 4, none⟩ (.int .i64 x)).setCell ⟨g, j * 4 + 1, none⟩ (.int .i64 y)).setCell ⟨g, j * 4 + 2, none⟩ (.int .i64 z)).setCell ⟨g, j * 4 + 3, none⟩ (.int .i64 u)) g (l.set j (x, y, z, u)) := by
  unfold RowQ at h ⊢
  have h1 := heap_setCell_same w g (j * 4) _ _ (.int .i64 x) h
  have h2 := heap_setCell_same _ g (j * 4 + 1) _ _ (.int .i64 y) h1
  have h3 := heap_setCell_same _ g (j * 4 + 2) _ _ (.int .i64 z) h2
  rw [heap_setCell_same _ g (j * 4 + 3) _ _ (.int .i64 u) h3, ← odV_set]
  simp
theorem odV_zero (n : Nat) : madeCells #[.int .i64 0, .int .i64 0, .int .i64 0, .int .i64 0] (n * 4) = (odV (List.replicate n (0, 0, 0, 0))).toArray := by
  apply Array.ext
  · simp [madeCells, odV_len]
  · intro j h1 h2
    have hj : j < n * 4 := by simpa [madeCells] using h1
    have h0 : j / 4 < n := by omega
    have hr := odV_at (List.replicate n ((0, 0, 0, 0) : Od4)) (j / 4) (by simpa using h0)
    have h3 : j % 4 = 0 ∨ j % 4 = 1 ∨ j % 4 = 2 ∨ j % 4 = 3 := by omega
    have hz : (odV (List.replicate n ((0, 0, 0, 0) : Od4)))[j]? = some (.int .i64 0) := by
      rcases h3 with e | e | e | e
      · have := hr.1
        rw [show j / 4 * 4 = j by omega] at this
        simpa using this
      · have := hr.2.1
        rw [show j / 4 * 4 + 1 = j by omega] at this
        simpa using this
      · have := hr.2.2.1
        rw [show j / 4 * 4 + 2 = j by omega] at this
        simpa using this
      · have := hr.2.2.2
        rw [show j / 4 * 4 + 3 = j by omega] at this
        simpa using this
    have hl : (madeCells #[Value.int .i64 0, .int .i64 0, .int .i64 0, .int .i64 0] (n * 4))[j] = .int .i64 0 := by
      rcases h3 with e | e | e | e <;> simp [madeCells, e]
    rw [hl]
    have hj2 : j < (odV (List.replicate n ((0, 0, 0, 0) : Od4))).length := by simpa using h2
    rw [List.getElem?_eq_getElem hj2] at hz
    simpa using (Option.some.inj hz).symm
/-- the first j copied, the rest still 0 -/
def uptoQ (l : List Od4) (n j : Nat) : List Od4 := l.take j ++ List.replicate (n - j) (0, 0, 0, 0)
theorem uptoQ_zero (l : List Od4) (n : Nat) : uptoQ l n 0 = List.replicate n (0, 0, 0, 0) := by simp [uptoQ]
theorem uptoQ_len {l : List Od4} {n j : Nat} (hl : l.length = n) (h : j ≤ n) : (uptoQ l n j).length = n := by simp [uptoQ]; omega
theorem uptoQ_all {l : List Od4} {n : Nat} (hl : l.length = n) : uptoQ l n n = l := by simp [uptoQ]; exact List.take_of_length_le (by omega)
theorem uptoQ_set {l : List Od4} {n j : Nat} (hl : l.length = n) (h : j < n) (hj : j < l.length) : (uptoQ l n j).set j l[j] = uptoQ l n (j + 1) := by
  have h1 : (l.take j).length = j := by simp; omega
  unfold uptoQ
  obtain ⟨m, hm⟩ : ∃ m, n - j = m + 1 := ⟨n - j - 1, by omega⟩
  rw [hm, show n - (j + 1) = m by omega, List.replicate_succ, List.set_append_right _ _ (by omega), h1, Nat.sub_self, List.set_cons_zero, List.take_succ_eq_append_getElem hj, List.append_assoc]
  rfl
theorem keepQ {w W W' : World} {b c o m : Nat} {x y z u x' y' z' u' : Value} (hb : Below W.heap.size W W') (h : W.cell? ⟨b, o, none⟩ = some x ∧ W.cell? ⟨b, o + 1, none⟩ = some y ∧ W.cell? ⟨b, o + 2, none⟩ = some z ∧ W.cell? ⟨b, o + 3, none⟩ = some u ∧ W.cell? ⟨c, m, none⟩ = some x' ∧ W.cell? ⟨c, m + 1, none⟩ = some y' ∧ W.cell? ⟨c, m + 2, none⟩ = some z' ∧ W.cell? ⟨c, m + 3, none⟩ = some u' ∧ Below w.heap.size w W) :
    W'.cell? ⟨b, o, none⟩ = some x ∧ W'.cell? ⟨b, o + 1, none⟩ = some y ∧ W'.cell? ⟨b, o + 2, none⟩ = some z ∧ W'.cell? ⟨b, o + 3, none⟩ = some u ∧ W'.cell? ⟨c, m, none⟩ = some x' ∧ W'.cell? ⟨c, m + 1, none⟩ = some y' ∧ W'.cell? ⟨c, m + 2, none⟩ = some z' ∧ W'.cell? ⟨c, m + 3, none⟩ = some u' ∧ Below w.heap.size w W' := by
  obtain ⟨h0, h1, h2, h3, h4, h5, h6, h7, h8⟩ := h
  have l1 := World.block_lt_of_cell? W ⟨b, o, none⟩ h0
  have l2 := World.block_lt_of_cell? W ⟨c, m, none⟩ h4
  exact ⟨(hb.cell (p := ⟨b, o, none⟩) l1).trans h0, (hb.cell (p := ⟨b, o + 1, none⟩) l1).trans h1, (hb.cell (p := ⟨b, o + 2, none⟩) l1).trans h2, (hb.cell (p := ⟨b, o + 3, none⟩) l1).trans h3, (hb.cell (p := ⟨c, m, none⟩) l2).trans h4, (hb.cell (p := ⟨c, m + 1, none⟩) l2).trans h5, (hb.cell (p := ⟨c, m + 2, none⟩) l2).trans h6, (hb.cell (p := ⟨c, m + 3, none⟩) l2).trans h7, h8.trans (hb.mono h8.size)⟩
/-- an owned list of orders that begins its block -/
def OwnE (w : World) (B g n c : Nat) (l : List Od4) : Prop := w.ownsRow B 139 4 (.slice (some ⟨g, 0, none⟩) n c) n (odV l)
theorem OwnE.own {w : World} {B g n c : Nat} {l : List Od4} (h : OwnE w B g n c l) : OwnQ w B (.slice (some ⟨g, 0, none⟩) n c) n l := h
theorem OwnE.len {w : World} {B g n c : Nat} {l : List Od4} (h : OwnE w B g n c l) : l.length = n := h.own.len
theorem OwnE.ge {w : World} {B g n c : Nat} {l : List Od4} (h : OwnE w B g n c l) : B ≤ g := own_ge h g rfl
theorem OwnE.lt {w : World} {B g n c : Nat} {l : List Od4} (h : OwnE w B g n c l) : g < w.heap.size := own_lt h g rfl
theorem OwnE.on {w w' : World} {B g n c : Nat} {l : List Od4} (h : OwnE w B g n c l) (hb : Below w.heap.size w w') : OwnE w' B g n c l := own_keep h hb (own_lt h)
theorem OwnE.mono {w : World} {B C g n c : Nat} {l : List Od4} (h : OwnE w B g n c l) (hC : C ≤ B) : OwnE w C g n c l := own_mono h hC
theorem OwnE.rd {w : World} {B g n c : Nat} {l : List Od4} (h : OwnE w B g n c l) : RdQ w (some ⟨g, 0, none⟩) l := h.own.rd
theorem OwnE.drew {w : World} {B g n c : Nat} {l : List Od4} (h : OwnE w B g n c l) : OwnE w.drew B g n c l := h
theorem OwnE.same {w w' : World} {B g n c : Nat} {l : List Od4} (h : OwnE w B g n c l) (hg : w'.heap[g]? = w.heap[g]?) : OwnE w' B g n c l := by
  refine ⟨h.1, ?_⟩
  rcases h.2 with h2 | ⟨g', cap, cur, e, h3, h4, h5⟩
  · exact .inl h2
  · cases e
    exact .inr ⟨_, _, _, rfl, h3, hg.trans h4, h5⟩
theorem OwnE.put {w w' : World} {B g n c k : Nat} {l : List Od4} {o : Obj} (h : OwnE w B g n c l) (hp : PutM w w' k o) (hne : g ≠ k) : OwnE w' B g n c l := h.same (hp.2.1 g hne)
theorem ownE_empty (w : World) (B : Nat) (hB : B ≤ w.heap.size) : OwnE (w.alloc (.cells #[] 139)) B w.heap.size 0 0 [] :=
  ⟨rfl, Or.inr ⟨_, 0, #[], rfl, hB, by show (w.heap.push _)[w.heap.size]? = _; simp, Nat.le_refl _, by decide, rfl, rfl⟩⟩
theorem RdQ.cells {w : World} {ad : Addr} {l : List Od4} (h : RdQ w (some ad) l) : ∀ j u, (odV l)[j]? = some u → w.cell? (ad.add j) = some u := by
  intro j v hv
  have hj : j < l.length * 4 := by
    rcases Nat.lt_or_ge j (l.length * 4) with h' | h'
    · exact h'
    · rw [List.getElem?_eq_none (by rw [odV_len]; exact h')] at hv; cases hv
  obtain ⟨g, off, ha, hc⟩ := h (by omega)
  cases ha
  obtain ⟨a0, a1, a2, a3⟩ := odV_at l (j / 4) (by omega)
  obtain ⟨b0, b1, b2, b3⟩ := hc (j / 4) (by omega)
  rw [add_at]
  have e4 : j % 4 = 0 ∨ j % 4 = 1 ∨ j % 4 = 2 ∨ j % 4 = 3 := by omega
  rcases e4 with e | e | e | e
  · rw [show j / 4 * 4 = j by omega, hv] at a0
    rw [show off + j / 4 * 4 = off + j by omega] at b0
    rw [b0]; exact a0.symm
  · rw [show j / 4 * 4 + 1 = j by omega, hv] at a1
    rw [show off + j / 4 * 4 + 1 = off + j by omega] at b1
    rw [b1]; exact a1.symm
  · rw [show j / 4 * 4 + 2 = j by omega, hv] at a2
    rw [show off + j / 4 * 4 + 2 = off + j by omega] at b2
    rw [b2]; exact a2.symm
  · rw [show j / 4 * 4 + 3 = j by omega, hv] at a3
    rw [show off + j / 4 * 4 + 3 = off + j by omega] at b3
    rw [b3]; exact a3.symm
/-- one order in a block of its own -/
theorem one_rowQ (w : World) (x y z u : Int) : RowQ (w.alloc (.cells #[.int .i64 x, .int .i64 y, .int .i64 z, .int .i64 u] 139)) w.heap.size [(x, y, z, u)] := heap_new w _
end Go.Proofs.YtckeffccoghgeaaDoor
