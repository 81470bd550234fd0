/-
  Lists of Orders: in memory, read, copied, compared, sized.
-/
import Derived.Test.YtdifmjcghaoilaaGreatDoorGaBO
import Derived.Deep.Slices
import Derived.OpenShut
import Derived.Maps.AppendAt
import Derived.Laws.AppendOwnNone
namespace Go.Proofs.YtdifmjcghaoilaaGreatDoor
open Go.ChangeShapes Go.WideShapes Go.ChangeAt Go.RowKit Go.PlainAid
set_option linter.unusedVariables false

theorem row_after {w W' : World} {k B : Nat} {o : Obj} (h : w.heap[k]? = some o) (hb : Below B w W') (hk : k < B) : W'.heap[k]? = some o := (hb.block k hk).trans h
theorem add_at (g o j : Nat) : (⟨g, o, none⟩ : Addr).add j = ⟨g, o + j, none⟩ := by
  unfold Addr.add; split <;> simp_all
theorem own_lt {w : World} {B e z n : Nat} {v : Value} {xs : List Value} (h : w.ownsRow B e z v n xs) : ∀ g, v.ownBlock = some g → g < w.heap.size := fun k hk => (h.lt k hk).2
theorem own_ge {w : World} {B e z n : Nat} {v : Value} {xs : List Value} (h : w.ownsRow B e z v n xs) : ∀ g, v.ownBlock = some g → B ≤ g := fun k hk => (h.lt k hk).1
/-- what lies below the line stays owned -/
theorem own_keep {w w' : World} {B C e z n : Nat} {v : Value} {xs : List Value} (h : w.ownsRow B e z v n xs) (hb : Below C w w') (hlt : ∀ g, v.ownBlock = some g → g < C) : w'.ownsRow B e z v n xs := by
  refine ⟨h.1, ?_⟩
  rcases h.2 with h2 | ⟨g, cap, cur, rfl, hg, hh, h3⟩
  · exact .inl h2
  · exact .inr ⟨g, cap, cur, rfl, hg, by rw [hb.block g (hlt g rfl)]; exact hh, h3⟩
theorem own_mono {w : World} {B C e z n : Nat} {v : Value} {xs : List Value} (h : w.ownsRow B e z v n xs) (hC : C ≤ B) : w.ownsRow C e z v n xs := by
  refine ⟨h.1, ?_⟩
  rcases h.2 with h2 | ⟨g, cap, cur, rfl, hg, h3⟩
  · exact .inl h2
  · exact .inr ⟨g, cap, cur, rfl, by omega, h3⟩
theorem own_shapeW {w : World} {B e z n : Nat} {v : Value} {xs : List Value} (h : w.ownsRow B e z v n xs) : ∃ a cap, v = .slice a n cap := by
  rcases h.2 with ⟨rfl, e⟩ | ⟨g, cap, cur, rfl, _⟩
  · exact ⟨none, 0, by rw [e]⟩
  · exact ⟨_, cap, rfl⟩
def odV : List Od4 → List Value
  | [] => []
  | r :: t => .int .i64 r.1 :: .int .i64 r.2.1 :: .int .i64 r.2.2.1 :: .int .i64 r.2.2.2 :: odV t
theorem odV_len : ∀ l : List Od4, (odV l).length = l.length * 4
  | [] => rfl
  | r :: t => by simp [odV, odV_len t]; omega
theorem odV_append : ∀ x y : List Od4, odV (x ++ y) = odV x ++ odV y
  | [], y => rfl
  | r :: t, y => by simp [odV, odV_append t y]
theorem odV_at : ∀ (l : List Od4) (j : Nat) (h : j < l.length), (odV l)[j * 4]? = some (.int .i64 l[j].1) ∧ (odV l)[j * 4 + 1]? = some (.int .i64 l[j].2.1) ∧ (odV l)[j * 4 + 2]? = some (.int .i64 l[j].2.2.1) ∧ (odV l)[j * 4 + 3]? = some (.int .i64 l[j].2.2.2)
  | [], j, h => by simp at h
  | r :: t, 0, h => by simp [odV]
  | r :: t, j + 1, h => by
    have := odV_at t j (by simpa using h)
    rw [show (j + 1) * 4 = j * 4 + 1 + 1 + 1 + 1 by omega, show j * 4 + 1 + 1 + 1 + 1 + 2 = j * 4 + 2 + 1 + 1 + 1 + 1 by omega, show j * 4 + 1 + 1 + 1 + 1 + 3 = j * 4 + 3 + 1 + 1 + 1 + 1 by omega]
    simpa [odV] using this
theorem odV_one : ∀ l : List Od4, ∀ v ∈ odV l, v.oneCell' = true
  | [], v, h => by cases h
  | r :: t, v, h => by
    rcases List.mem_cons.1 h with rfl | h
    · rfl
    · skip
      rcases List.mem_cons.1 h with rfl | h
      · rfl
      · skip
        rcases List.mem_cons.1 h with rfl | h
        · rfl
        · skip
          rcases List.mem_cons.1 h with rfl | h
          · rfl
          · exact odV_one t v h
theorem infoQ : (Tryz.prog.info? 82).map (fun i => (i.zero, i.size, i.bytes)) = some (some (.agg #[.int .i64 0, .int .i64 0, .int .i64 0, .int .i64 0]), 4, 32) := by kernel_rfl
theorem boxQ_cells {w : World} {k : Nat} {t : TypeId} {x y z u : Value} (h : w.heap[k]? = some (.cells #[x, y, z, u] t)) :
    (w.cell? ⟨k, 0, none⟩ = some x ∧ w.cell? ⟨k, 1, none⟩ = some y ∧ w.cell? ⟨k, 2, none⟩ = some z ∧ w.cell? ⟨k, 3, none⟩ = some u) ∧ w.frozen? ⟨k, 0, none⟩ = false ∧ w.frozen? ⟨k, 1, none⟩ = false ∧ w.frozen? ⟨k, 2, none⟩ = false ∧ w.frozen? ⟨k, 3, none⟩ = false := by
  refine ⟨⟨?_, ?_, ?_, ?_⟩, ?_, ?_, ?_, ?_⟩ <;> simp [World.cell?, World.frozen?, h]
/-- a list that is read, wherever it lies -/
def RdQ (w : World) (a : Option Addr) (l : List Od4) : Prop := 0 < l.length → ∃ g off, a = some ⟨g, off, none⟩ ∧ ∀ j (h : j < l.length), w.cell? ⟨g, off + j * 4, none⟩ = some (.int .i64 l[j].1) ∧ w.cell? ⟨g, off + j * 4 + 1, none⟩ = some (.int .i64 l[j].2.1) ∧ w.cell? ⟨g, off + j * 4 + 2, none⟩ = some (.int .i64 l[j].2.2.1) ∧ w.cell? ⟨g, off + j * 4 + 3, none⟩ = some (.int .i64 l[j].2.2.2)
theorem RdQ.keep {w w' : World} {a : Option Addr} {l : List Od4} {B : Nat} (h : RdQ w a l) (hb : Below B w w') (hB : w.heap.size ≤ B) : RdQ w' a l := fun h0 => by
  obtain ⟨g, off, ha, hc⟩ := h h0
  refine ⟨g, off, ha, fun j hj => ?_⟩
  obtain ⟨h0, h1, h2, h3⟩ := hc j hj
  have hlt := Nat.lt_of_lt_of_le (World.block_lt_of_cell? w ⟨g, off + j * 4, none⟩ h0) hB
  exact ⟨(hb.cell (p := ⟨g, off + j * 4, none⟩) hlt).trans h0, (hb.cell (p := ⟨g, off + j * 4 + 1, none⟩) hlt).trans h1, (hb.cell (p := ⟨g, off + j * 4 + 2, none⟩) hlt).trans h2, (hb.cell (p := ⟨g, off + j * 4 + 3, none⟩) hlt).trans h3⟩
theorem RdQ.on {w w' : World} {a : Option Addr} {l : List Od4} (h : RdQ w a l) (hb : Below w.heap.size w w') : RdQ w' a l := h.keep hb (Nat.le_refl _)
/-- an owned list -/
def OwnQ (w : World) (B : Nat) (v : Value) (n : Nat) (l : List Od4) : Prop := w.ownsRow B 82 4 v n (odV l)
theorem OwnQ.len {w : World} {B n : Nat} {v : Value} {l : List Od4} (h : OwnQ w B v n l) : l.length = n := by
  have := h.1; rw [odV_len] at this; omega
theorem OwnQ.rd {w : World} {B n c : Nat} {a : Option Addr} {l : List Od4} (h : OwnQ w B (.slice a n c) n l) : RdQ w a l := fun h0 => by
  have hl := h.len
  rcases h.2 with ⟨hv, e⟩ | ⟨g, cap, cur, hv, _⟩
  · omega
  · cases hv
    refine ⟨g, 0, rfl, fun j hj => ?_⟩
    obtain ⟨h0, h1, h2, h3⟩ := odV_at l j hj
    refine ⟨?_, ?_, ?_, ?_⟩
    · rw [Nat.zero_add, h.cellAt (j * 4) (by omega)]; exact h0
    · rw [Nat.zero_add, h.cellAt (j * 4 + 1) (by omega)]; exact h1
    · rw [Nat.zero_add, h.cellAt (j * 4 + 2) (by omega)]; exact h2
    · rw [Nat.zero_add, h.cellAt (j * 4 + 3) (by omega)]; exact h3
theorem odV_set : ∀ (l : List Od4) (j : Nat) (x y z u : Int), ((((odV l).set (j * 4) (.int .i64 x)).set (j * 4 + 1) (.int .i64 y)).set (j * 4 + 2) (.int .i64 z)).set (j * 4 + 3) (.int .i64 u) = odV (l.set j (x, y, z, u))
  | [], j, x, y, z, u => by simp [odV]
  | r :: l, 0, x, y, z, u => by simp [odV]
  | r :: l, j + 1, x, y, z, u => by
    have := odV_set l j x y z u
    rw [show (j + 1) * 4 = j * 4 + 1 + 1 + 1 + 1 by omega, show j * 4 + 1 + 1 + 1 + 1 + 2 = j * 4 + 2 + 1 + 1 + 1 + 1 by omega, show j * 4 + 1 + 1 + 1 + 1 + 3 = j * 4 + 3 + 1 + 1 + 1 + 1 by omega]
    simpa [odV] using this
/-- a block that is such a list, whole -/
def RowQ (w : World) (g : Nat) (l : List Od4) : Prop := w.heap[g]? = some (.cells (odV l).toArray 82 (0, 0))
theorem RowQ.lt {w : World} {g : Nat} {l : List Od4} (h : RowQ w g l) : g < w.heap.size := row_lt h
theorem RowQ.on {w w' : World} {g : Nat} {l : List Od4} (h : RowQ w g l) (hb : Below w.heap.size w w') : RowQ w' g l := row_after h hb (row_lt h)
theorem RowQ.cell {w : World} {g : Nat} {l : List Od4} (h : RowQ w g l) (j : Nat) (hj : j < l.length) : w.cell? ⟨g, j * 4, none⟩ = some (.int .i64 l[j].1) ∧ w.cell? ⟨g, j * 4 + 1, none⟩ = some (.int .i64 l[j].2.1) ∧ w.cell? ⟨g, j * 4 + 2, none⟩ = some (.int .i64 l[j].2.2.1) ∧ w.cell? ⟨g, j * 4 + 3, none⟩ = some (.int .i64 l[j].2.2.2) := by
  have := odV_at l j hj
  rw [cell_of_row w g (j * 4) _ _ (0, 0) h, cell_of_row w g (j * 4 + 1) _ _ (0, 0) h, cell_of_row w g (j * 4 + 2) _ _ (0, 0) h, cell_of_row w g (j * 4 + 3) _ _ (0, 0) h]
  simpa using this
theorem RowQ.free {w : World} {g : Nat} {l : List Od4} (h : RowQ w g l) (j : Nat) : w.frozen? ⟨g, j, none⟩ = false := frozen_of_row w g j _ _ h
theorem RowQ.rd {w : World} {g : Nat} {l : List Od4} (h : RowQ w g l) : RdQ w (some ⟨g, 0, none⟩) l := fun _ => ⟨g, 0, rfl, fun j hj => by rw [Nat.zero_add]; exact h.cell j hj⟩
theorem RowQ.set {w : World} {g : Nat} {l : List Od4} (h : RowQ w g l) (j : Nat) (x y z u : Int) : RowQ ((((w.setCell ⟨g, j * 4, none⟩ (.int .i64 x)).setCell ⟨g, j * 4 + 1, none⟩ (.int .i64 y)).setCell ⟨g, j * 4 + 2, none⟩ (.int .i64 z)).setCell ⟨g, j * 4 + 3, none⟩ (.int .i64 u)) g (l.set j (x, y, z, u)) := by
  unfold RowQ at h ⊢
  have h1 := heap_setCell_same w g (j * 4) _ _ (.int .i64 x) h
  have h2 := heap_setCell_same _ g (j * 4 + 1) _ _ (.int .i64 y) h1
  have h3 := heap_setCell_same _ g (j * 4 + 2) _ _ (.int .i64 z) h2
  rw [heap_setCell_same _ g (j * 4 + 3) _ _ (.int .i64 u) h3, ← odV_set]
  simp
theorem odV_zero (n : Nat) : madeCells #[.int .i64 0, .int .i64 0, .int .i64 0, .int .i64 0] (n * 4) = (odV (List.replicate n (0, 0, 0, 0))).toArray := by
  apply Array.ext
  · simp [madeCells, odV_len]
  · intro j h1 h2
    have hj : j < n * 4 := by simpa [madeCells] using h1
    have h0 : j / 4 < n := by omega
    have hr := odV_at (List.replicate n ((0, 0, 0, 0) : Od4)) (j / 4) (by simpa using h0)
    have h3 : j % 4 = 0 ∨ j % 4 = 1 ∨ j % 4 = 2 ∨ j % 4 = 3 := by omega
    have hz : (odV (List.replicate n ((0, 0, 0, 0) : Od4)))[j]? = some (.int .i64 0) := by
      rcases h3 with e | e | e | e
      · have := hr.1
        rw [show j / 4 * 4 = j by omega] at this
        simpa using this
      · have := hr.2.1
        rw [show j / 4 * 4 + 1 = j by omega] at this
        simpa using this
      · have := hr.2.2.1
        rw [show j / 4 * 4 + 2 = j by omega] at this
        simpa using this
      · have := hr.2.2.2
        rw [show j / 4 * 4 + 3 = j by omega] at this
        simpa using this
    have hl : (madeCells #[Value.int .i64 0, .int .i64 0, .int .i64 0, .int .i64 0] (n * 4))[j] = .int .i64 0 := by
      rcases h3 with e | e | e | e <;> simp [madeCells, e]
    rw [hl]
    have hj2 : j < (odV (List.replicate n ((0, 0, 0, 0) : Od4))).length := by simpa using h2
    rw [List.getElem?_eq_getElem hj2] at hz
    simpa using (Option.some.inj hz).symm
theorem makeQ (n : Nat) (hn : n ≤ 1048576) (w : World) : (Instr.makeSlice 78 (.int .i64 n) (.int .i64 n)).run Tryz.prog w = .ok (.slice (some ⟨w.heap.size, 0, none⟩) n n) (w.alloc (.cells (odV (List.replicate n (0, 0, 0, 0))).toArray 82)) := by
  obtain ⟨i0, hi, hz0, hz1, hz2⟩ := info_parts infoQ
  have h := run_make (P := Tryz.prog) w 78 82 i0 _ Tryz.underlying78 hi hz0 .i64 .i64 n n (by omega) (Int.le_refl _) (by rw [hz2]; omega) (by omega)
  rw [hz1, Int.toNat_natCast, show (Value.agg #[.int .i64 0, .int .i64 0, .int .i64 0, .int .i64 0]).cells = #[.int .i64 0, .int .i64 0, .int .i64 0, .int .i64 0] from rfl, odV_zero] at h
  exact h
/-- the first j copied, the rest still 0 -/
def uptoQ (l : List Od4) (n j : Nat) : List Od4 := l.take j ++ List.replicate (n - j) (0, 0, 0, 0)
theorem uptoQ_zero (l : List Od4) (n : Nat) : uptoQ l n 0 = List.replicate n (0, 0, 0, 0) := by simp [uptoQ]
theorem uptoQ_len {l : List Od4} {n j : Nat} (hl : l.length = n) (h : j ≤ n) : (uptoQ l n j).length = n := by simp [uptoQ]; omega
theorem uptoQ_all {l : List Od4} {n : Nat} (hl : l.length = n) : uptoQ l n n = l := by simp [uptoQ]; exact List.take_of_length_le (by omega)
theorem uptoQ_set {l : List Od4} {n j : Nat} (hl : l.length = n) (h : j < n) (hj : j < l.length) : (uptoQ l n j).set j l[j] = uptoQ l n (j + 1) := by
  have h1 : (l.take j).length = j := by simp; omega
  unfold uptoQ
  obtain ⟨m, hm⟩ : ∃ m, n - j = m + 1 := ⟨n - j - 1, by omega⟩
  rw [hm, show n - (j + 1) = m by omega, List.replicate_succ, List.set_append_right _ _ (by omega), h1, Nat.sub_self, List.set_cons_zero, List.take_succ_eq_append_getElem hj, List.append_assoc]
  rfl
theorem keepQ {w W W' : World} {b c o m : Nat} {x y z u x' y' z' u' : Value} (hb : Below W.heap.size W W') (h : W.cell? ⟨b, o, none⟩ = some x ∧ W.cell? ⟨b, o + 1, none⟩ = some y ∧ W.cell? ⟨b, o + 2, none⟩ = some z ∧ W.cell? ⟨b, o + 3, none⟩ = some u ∧ W.cell? ⟨c, m, none⟩ = some x' ∧ W.cell? ⟨c, m + 1, none⟩ = some y' ∧ W.cell? ⟨c, m + 2, none⟩ = some z' ∧ W.cell? ⟨c, m + 3, none⟩ = some u' ∧ Below w.heap.size w W) :
    W'.cell? ⟨b, o, none⟩ = some x ∧ W'.cell? ⟨b, o + 1, none⟩ = some y ∧ W'.cell? ⟨b, o + 2, none⟩ = some z ∧ W'.cell? ⟨b, o + 3, none⟩ = some u ∧ W'.cell? ⟨c, m, none⟩ = some x' ∧ W'.cell? ⟨c, m + 1, none⟩ = some y' ∧ W'.cell? ⟨c, m + 2, none⟩ = some z' ∧ W'.cell? ⟨c, m + 3, none⟩ = some u' ∧ Below w.heap.size w W' := by
  obtain ⟨h0, h1, h2, h3, h4, h5, h6, h7, h8⟩ := h
  have l1 := World.block_lt_of_cell? W ⟨b, o, none⟩ h0
  have l2 := World.block_lt_of_cell? W ⟨c, m, none⟩ h4
  exact ⟨(hb.cell (p := ⟨b, o, none⟩) l1).trans h0, (hb.cell (p := ⟨b, o + 1, none⟩) l1).trans h1, (hb.cell (p := ⟨b, o + 2, none⟩) l1).trans h2, (hb.cell (p := ⟨b, o + 3, none⟩) l1).trans h3, (hb.cell (p := ⟨c, m, none⟩) l2).trans h4, (hb.cell (p := ⟨c, m + 1, none⟩) l2).trans h5, (hb.cell (p := ⟨c, m + 2, none⟩) l2).trans h6, (hb.cell (p := ⟨c, m + 3, none⟩) l2).trans h7, h8.trans (hb.mono h8.size)⟩
/-- an owned list of orders that begins its block -/
def OwnE (w : World) (B g n c : Nat) (l : List Od4) : Prop := w.ownsRow B 82 4 (.slice (some ⟨g, 0, none⟩) n c) n (odV l)
theorem OwnE.own {w : World} {B g n c : Nat} {l : List Od4} (h : OwnE w B g n c l) : OwnQ w B (.slice (some ⟨g, 0, none⟩) n c) n l := h
theorem OwnE.len {w : World} {B g n c : Nat} {l : List Od4} (h : OwnE w B g n c l) : l.length = n := h.own.len
theorem OwnE.ge {w : World} {B g n c : Nat} {l : List Od4} (h : OwnE w B g n c l) : B ≤ g := own_ge h g rfl
theorem OwnE.lt {w : World} {B g n c : Nat} {l : List Od4} (h : OwnE w B g n c l) : g < w.heap.size := own_lt h g rfl
theorem OwnE.on {w w' : World} {B g n c : Nat} {l : List Od4} (h : OwnE w B g n c l) (hb : Below w.heap.size w w') : OwnE w' B g n c l := own_keep h hb (own_lt h)
theorem OwnE.mono {w : World} {B C g n c : Nat} {l : List Od4} (h : OwnE w B g n c l) (hC : C ≤ B) : OwnE w C g n c l := own_mono h hC
theorem OwnE.rd {w : World} {B g n c : Nat} {l : List Od4} (h : OwnE w B g n c l) : RdQ w (some ⟨g, 0, none⟩) l := h.own.rd
theorem OwnE.drew {w : World} {B g n c : Nat} {l : List Od4} (h : OwnE w B g n c l) : OwnE w.drew B g n c l := h
theorem OwnE.same {w w' : World} {B g n c : Nat} {l : List Od4} (h : OwnE w B g n c l) (hg : w'.heap[g]? = w.heap[g]?) : OwnE w' B g n c l := by
  refine ⟨h.1, ?_⟩
  rcases h.2 with h2 | ⟨g', cap, cur, e, h3, h4, h5⟩
  · exact .inl h2
  · cases e
    exact .inr ⟨_, _, _, rfl, h3, hg.trans h4, h5⟩
theorem OwnE.put {w w' : World} {B g n c k : Nat} {l : List Od4} {o : Obj} (h : OwnE w B g n c l) (hp : PutM w w' k o) (hne : g ≠ k) : OwnE w' B g n c l := h.same (hp.2.1 g hne)
theorem ownE_empty (w : World) (B : Nat) (hB : B ≤ w.heap.size) : OwnE (w.alloc (.cells #[] 82)) B w.heap.size 0 0 [] :=
  ⟨rfl, Or.inr ⟨_, 0, #[], rfl, hB, by show (w.heap.push _)[w.heap.size]? = _; simp, Nat.le_refl _, by decide, rfl, rfl⟩⟩
theorem RdQ.cells {w : World} {ad : Addr} {l : List Od4} (h : RdQ w (some ad) l) : ∀ j u, (odV l)[j]? = some u → w.cell? (ad.add j) = some u := by
  intro j v hv
  have hj : j < l.length * 4 := by
    rcases Nat.lt_or_ge j (l.length * 4) with h' | h'
    · exact h'
    · rw [List.getElem?_eq_none (by rw [odV_len]; exact h')] at hv; cases hv
  obtain ⟨g, off, ha, hc⟩ := h (by omega)
  cases ha
  obtain ⟨a0, a1, a2, a3⟩ := odV_at l (j / 4) (by omega)
  obtain ⟨b0, b1, b2, b3⟩ := hc (j / 4) (by omega)
  rw [add_at]
  have e4 : j % 4 = 0 ∨ j % 4 = 1 ∨ j % 4 = 2 ∨ j % 4 = 3 := by omega
  rcases e4 with e | e | e | e
  · rw [show j / 4 * 4 = j by omega, hv] at a0
    rw [show off + j / 4 * 4 = off + j by omega] at b0
    rw [b0]; exact a0.symm
  · rw [show j / 4 * 4 + 1 = j by omega, hv] at a1
    rw [show off + j / 4 * 4 + 1 = off + j by omega] at b1
    rw [b1]; exact a1.symm
  · rw [show j / 4 * 4 + 2 = j by omega, hv] at a2
    rw [show off + j / 4 * 4 + 2 = off + j by omega] at b2
    rw [b2]; exact a2.symm
  · rw [show j / 4 * 4 + 3 = j by omega, hv] at a3
    rw [show off + j / 4 * 4 + 3 = off + j by omega] at b3
    rw [b3]; exact a3.symm
/-- append onto a list of orders that the call owns -/
theorem run_appQ (W : World) (ty : TypeId) (B g n c : Nat) (l : List Od4) (q : Option Addr) (m cx : Nat) (l' : List Od4) (hown : OwnE W B g n c l) (hl : l'.length = m) (hq : q = none → m = 0 ∧ cx = 0) (hr : RdQ W q l') (hn : n + m ≤ 3000000) (hB : B ≤ W.heap.size) :
    ∃ g' c' w', (Builtin.append_ #[78, 78] ty #[.slice (some ⟨g, 0, none⟩) n c, .slice q m cx]).run Tryz.prog W = .ok (.slice (some ⟨g', 0, none⟩) (n + m) c') w' ∧ OwnE w' B g' (n + m) c' (l ++ l') ∧ W.grownBy w' (some g) := by
  obtain ⟨i0, hi, hz0, hz1, hz2⟩ := info_parts infoQ
  cases q with
  | none =>
    obtain ⟨rfl, rfl⟩ := hq rfl
    refine ⟨g, c, W, ?_, ?_, World.grownBy.refl _ _⟩
    · exact run_append_owned_none (P := Tryz.prog) (w := W) B 78 ty 82 i0 4 Tryz.underlying78 hi _ n _ hown
    · rw [List.length_eq_zero_iff.1 hl, List.append_nil]; exact hown
  | some ad =>
    obtain ⟨v', w', hrun, h2, h3, h4, h5⟩ := run_append_own_at (P := Tryz.prog) W B 78 ty 82 i0 (.agg #[.int .i64 0, .int .i64 0, .int .i64 0, .int .i64 0]) 4 32 Tryz.underlying78 hi hz0 hz1 hz2 rfl (by decide) _ n _ hown ad m cx (odV l') (by rw [odV_len, hl]) hr.cells (odV_one l') (by unfold maxLen; omega) (by omega) hB
    rcases h2.2 with ⟨hv, _⟩ | ⟨g', cap, cur, rfl, _⟩
    · have := h4.1 hv; simp at this
    · refine ⟨g', cap, w', hrun, ?_, h3⟩
      unfold OwnE
      rw [odV_append]
      exact h2
theorem wpQ {o : Oper} {a : Act} {K : Act → World → Prop} {Q : Exit → Act → World → Prop} (W : World) (s x : Operand)
    (ho : o.op = .call { callee := .builtin .append, args := #[s, x], argTypes := #[78, 78] }) (B g n c : Nat) (l : List Od4) (q : Option Addr) (m cx : Nat) (l' : List Od4)
    (hs : a.eval s = .slice (some ⟨g, 0, none⟩) n c) (hx : a.eval x = .slice q m cx) (hown : OwnE W B g n c l) (hl : l'.length = m) (hq : q = none → m = 0 ∧ cx = 0) (hr : RdQ W q l') (hn : n + m ≤ 3000000) (hB : B ≤ W.heap.size)
    (h : ∀ g' c' w', OwnE w' B g' (n + m) c' (l ++ l') → W.grownBy w' (some g) → K (a.put o.dst (.slice (some ⟨g', 0, none⟩) (n + m) c')) w') : o.wp Tryz.prog a W K Q := by
  obtain ⟨g', c', w', hrun, h2, h3⟩ := run_appQ W o.type B g n c l q m cx l' hown hl hq hr hn hB
  unfold Oper.wp execOp
  simp only [ho, resolve, invoke, builtin, Sem.run_bind, Sem.run_pure, Result.andThen_ok, List.map_toArray, List.map_cons, List.map_nil, hs, hx, hrun]
  exact h g' c' w' h2 h3
/-- .. in a plain region -/
theorem listQ {ops : Array Oper} {rest : List Oper} {o : Oper} {a : Act} {Q : Exit → Act → World → Prop} {W : World} (hgd : o.guard = none) (s x : Operand)
    (ho : o.op = .call { callee := .builtin .append, args := #[s, x], argTypes := #[78, 78] }) (B g n c : Nat) (l : List Od4) (q : Option Addr) (m cx : Nat) (l' : List Od4)
    (hs : a.eval s = .slice (some ⟨g, 0, none⟩) n c) (hx : a.eval x = .slice q m cx) (hown : OwnE W B g n c l) (hl : l'.length = m) (hq : q = none → m = 0 ∧ cx = 0) (hr : RdQ W q l') (hn : n + m ≤ 3000000) (hB : B ≤ W.heap.size)
    (h : ∀ g' c' w', OwnE w' B g' (n + m) c' (l ++ l') → W.grownBy w' (some g) → wpList Tryz.prog ops Q rest (a.put o.dst (.slice (some ⟨g', 0, none⟩) (n + m) c')) w') : wpList Tryz.prog ops Q (o :: rest) a W :=
  wpList_plain hgd fun _ hK => wpQ W s x ho B g n c l q m cx l' hs hx hown hl hq hr hn hB fun g' c' w' h2 h3 => hK _ _ (h g' c' w' h2 h3)
/-- one order in a block of its own -/
theorem one_rowQ (w : World) (x y z u : Int) : RowQ (w.alloc (.cells #[.int .i64 x, .int .i64 y, .int .i64 z, .int .i64 u] 82)) w.heap.size [(x, y, z, u)] := heap_new w _
end Go.Proofs.YtdifmjcghaoilaaGreatDoor

namespace Go.Proofs.YtdifmjcghaoilaaGreatDoor
open Go.ChangeShapes Go.WideShapes Go.ChangeAt Go.RowKit Go.PlainAid
set_option linter.unusedVariables false

abbrev Tk3 := Int × Int × Int
def tkV : List Tk3 → List Value
  | [] => []
  | r :: t => .int .i64 r.1 :: .int .i64 r.2.1 :: .int .i64 r.2.2 :: tkV t
theorem tkV_len : ∀ l : List Tk3, (tkV l).length = l.length * 3
  | [] => rfl
  | r :: t => by simp [tkV, tkV_len t]; omega
theorem tkV_append : ∀ x y : List Tk3, tkV (x ++ y) = tkV x ++ tkV y
  | [], y => rfl
  | r :: t, y => by simp [tkV, tkV_append t y]
theorem tkV_at : ∀ (l : List Tk3) (j : Nat) (h : j < l.length), (tkV l)[j * 3]? = some (.int .i64 l[j].1) ∧ (tkV l)[j * 3 + 1]? = some (.int .i64 l[j].2.1) ∧ (tkV l)[j * 3 + 2]? = some (.int .i64 l[j].2.2)
  | [], j, h => by simp at h
  | r :: t, 0, h => by simp [tkV]
  | r :: t, j + 1, h => by
    have := tkV_at t j (by simpa using h)
    rw [show (j + 1) * 3 = j * 3 + 1 + 1 + 1 by omega, show j * 3 + 1 + 1 + 1 + 2 = j * 3 + 2 + 1 + 1 + 1 by omega]
    simpa [tkV] using this
theorem tkV_one : ∀ l : List Tk3, ∀ v ∈ tkV l, v.oneCell' = true
  | [], v, h => by cases h
  | r :: t, v, h => by
    rcases List.mem_cons.1 h with rfl | h
    · rfl
    · skip
      rcases List.mem_cons.1 h with rfl | h
      · rfl
      · skip
        rcases List.mem_cons.1 h with rfl | h
        · rfl
        · exact tkV_one t v h
theorem infoY : (Tryz.prog.info? 41).map (fun i => (i.zero, i.size, i.bytes)) = some (some (.agg #[.int .i64 0, .int .i64 0, .int .i64 0]), 3, 24) := by kernel_rfl
theorem boxY_cells {w : World} {k : Nat} {t : TypeId} {x y z : Value} (h : w.heap[k]? = some (.cells #[x, y, z] t)) :
    (w.cell? ⟨k, 0, none⟩ = some x ∧ w.cell? ⟨k, 1, none⟩ = some y ∧ w.cell? ⟨k, 2, none⟩ = some z) ∧ w.frozen? ⟨k, 0, none⟩ = false ∧ w.frozen? ⟨k, 1, none⟩ = false ∧ w.frozen? ⟨k, 2, none⟩ = false := by
  refine ⟨⟨?_, ?_, ?_⟩, ?_, ?_, ?_⟩ <;> simp [World.cell?, World.frozen?, h]
/-- a list that is read, wherever it lies -/
def RdY (w : World) (a : Option Addr) (l : List Tk3) : Prop := 0 < l.length → ∃ g off, a = some ⟨g, off, none⟩ ∧ ∀ j (h : j < l.length), w.cell? ⟨g, off + j * 3, none⟩ = some (.int .i64 l[j].1) ∧ w.cell? ⟨g, off + j * 3 + 1, none⟩ = some (.int .i64 l[j].2.1) ∧ w.cell? ⟨g, off + j * 3 + 2, none⟩ = some (.int .i64 l[j].2.2)
theorem RdY.keep {w w' : World} {a : Option Addr} {l : List Tk3} {B : Nat} (h : RdY w a l) (hb : Below B w w') (hB : w.heap.size ≤ B) : RdY w' a l := fun h0 => by
  obtain ⟨g, off, ha, hc⟩ := h h0
  refine ⟨g, off, ha, fun j hj => ?_⟩
  obtain ⟨h0, h1, h2⟩ := hc j hj
  have hlt := Nat.lt_of_lt_of_le (World.block_lt_of_cell? w ⟨g, off + j * 3, none⟩ h0) hB
  exact ⟨(hb.cell (p := ⟨g, off + j * 3, none⟩) hlt).trans h0, (hb.cell (p := ⟨g, off + j * 3 + 1, none⟩) hlt).trans h1, (hb.cell (p := ⟨g, off + j * 3 + 2, none⟩) hlt).trans h2⟩
theorem RdY.on {w w' : World} {a : Option Addr} {l : List Tk3} (h : RdY w a l) (hb : Below w.heap.size w w') : RdY w' a l := h.keep hb (Nat.le_refl _)
/-- an owned list -/
def OwnY (w : World) (B : Nat) (v : Value) (n : Nat) (l : List Tk3) : Prop := w.ownsRow B 41 3 v n (tkV l)
theorem OwnY.len {w : World} {B n : Nat} {v : Value} {l : List Tk3} (h : OwnY w B v n l) : l.length = n := by
  have := h.1; rw [tkV_len] at this; omega
theorem OwnY.rd {w : World} {B n c : Nat} {a : Option Addr} {l : List Tk3} (h : OwnY w B (.slice a n c) n l) : RdY w a l := fun h0 => by
  have hl := h.len
  rcases h.2 with ⟨hv, e⟩ | ⟨g, cap, cur, hv, _⟩
  · omega
  · cases hv
    refine ⟨g, 0, rfl, fun j hj => ?_⟩
    obtain ⟨h0, h1, h2⟩ := tkV_at l j hj
    refine ⟨?_, ?_, ?_⟩
    · rw [Nat.zero_add, h.cellAt (j * 3) (by omega)]; exact h0
    · rw [Nat.zero_add, h.cellAt (j * 3 + 1) (by omega)]; exact h1
    · rw [Nat.zero_add, h.cellAt (j * 3 + 2) (by omega)]; exact h2
theorem tkV_set : ∀ (l : List Tk3) (j : Nat) (x y z : Int), (((tkV l).set (j * 3) (.int .i64 x)).set (j * 3 + 1) (.int .i64 y)).set (j * 3 + 2) (.int .i64 z) = tkV (l.set j (x, y, z))
  | [], j, x, y, z => by simp [tkV]
  | r :: l, 0, x, y, z => by simp [tkV]
  | r :: l, j + 1, x, y, z => by
    have := tkV_set l j x y z
    rw [show (j + 1) * 3 = j * 3 + 1 + 1 + 1 by omega, show j * 3 + 1 + 1 + 1 + 2 = j * 3 + 2 + 1 + 1 + 1 by omega]
    simpa [tkV] using this
/-- a block that is such a list, whole -/
def RowY (w : World) (g : Nat) (l : List Tk3) : Prop := w.heap[g]? = some (.cells (tkV l).toArray 41 (0, 0))
theorem RowY.lt {w : World} {g : Nat} {l : List Tk3} (h : RowY w g l) : g < w.heap.size := row_lt h
theorem RowY.on {w w' : World} {g : Nat} {l : List Tk3} (h : RowY w g l) (hb : Below w.heap.size w w') : RowY w' g l := row_after h hb (row_lt h)
theorem RowY.cell {w : World} {g : Nat} {l : List Tk3} (h : RowY w g l) (j : Nat) (hj : j < l.length) : w.cell? ⟨g, j * 3, none⟩ = some (.int .i64 l[j].1) ∧ w.cell? ⟨g, j * 3 + 1, none⟩ = some (.int .i64 l[j].2.1) ∧ w.cell? ⟨g, j * 3 + 2, none⟩ = some (.int .i64 l[j].2.2) := by
  have := tkV_at l j hj
  rw [cell_of_row w g (j * 3) _ _ (0, 0) h, cell_of_row w g (j * 3 + 1) _ _ (0, 0) h, cell_of_row w g (j * 3 + 2) _ _ (0, 0) h]
  simpa using this
theorem RowY.free {w : World} {g : Nat} {l : List Tk3} (h : RowY w g l) (j : Nat) : w.frozen? ⟨g, j, none⟩ = false := frozen_of_row w g j _ _ h
theorem RowY.rd {w : World} {g : Nat} {l : List Tk3} (h : RowY w g l) : RdY w (some ⟨g, 0, none⟩) l := fun _ => ⟨g, 0, rfl, fun j hj => by rw [Nat.zero_add]; exact h.cell j hj⟩
theorem RowY.set {w : World} {g : Nat} {l : List Tk3} (h : RowY w g l) (j : Nat) (x y z : Int) : RowY (((w.setCell ⟨g, j * 3, none⟩ (.int .i64 x)).setCell ⟨g, j * 3 + 1, none⟩ (.int .i64 y)).setCell ⟨g, j * 3 + 2, none⟩ (.int .i64 z)) g (l.set j (x, y, z)) := by
  unfold RowY at h ⊢
  have h1 := heap_setCell_same w g (j * 3) _ _ (.int .i64 x) h
  have h2 := heap_setCell_same _ g (j * 3 + 1) _ _ (.int .i64 y) h1
  rw [heap_setCell_same _ g (j * 3 + 2) _ _ (.int .i64 z) h2, ← tkV_set]
  simp
theorem tkV_zero (n : Nat) : madeCells #[.int .i64 0, .int .i64 0, .int .i64 0] (n * 3) = (tkV (List.replicate n (0, 0, 0))).toArray := by
  apply Array.ext
  · simp [madeCells, tkV_len]
  · intro j h1 h2
    have hj : j < n * 3 := by simpa [madeCells] using h1
    have h0 : j / 3 < n := by omega
    have hr := tkV_at (List.replicate n ((0, 0, 0) : Tk3)) (j / 3) (by simpa using h0)
    have h3 : j % 3 = 0 ∨ j % 3 = 1 ∨ j % 3 = 2 := by omega
    have hz : (tkV (List.replicate n ((0, 0, 0) : Tk3)))[j]? = some (.int .i64 0) := by
      rcases h3 with e | e | e
      · have := hr.1
        rw [show j / 3 * 3 = j by omega] at this
        simpa using this
      · have := hr.2.1
        rw [show j / 3 * 3 + 1 = j by omega] at this
        simpa using this
      · have := hr.2.2
        rw [show j / 3 * 3 + 2 = j by omega] at this
        simpa using this
    have hl : (madeCells #[Value.int .i64 0, .int .i64 0, .int .i64 0] (n * 3))[j] = .int .i64 0 := by
      rcases h3 with e | e | e <;> simp [madeCells, e]
    rw [hl]
    have hj2 : j < (tkV (List.replicate n ((0, 0, 0) : Tk3))).length := by simpa using h2
    rw [List.getElem?_eq_getElem hj2] at hz
    simpa using (Option.some.inj hz).symm
theorem makeY (n : Nat) (hn : n ≤ 1048576) (w : World) : (Instr.makeSlice 33 (.int .i64 n) (.int .i64 n)).run Tryz.prog w = .ok (.slice (some ⟨w.heap.size, 0, none⟩) n n) (w.alloc (.cells (tkV (List.replicate n (0, 0, 0))).toArray 41)) := by
  obtain ⟨i0, hi, hz0, hz1, hz2⟩ := info_parts infoY
  have h := run_make (P := Tryz.prog) w 33 41 i0 _ Tryz.underlying33 hi hz0 .i64 .i64 n n (by omega) (Int.le_refl _) (by rw [hz2]; omega) (by omega)
  rw [hz1, Int.toNat_natCast, show (Value.agg #[.int .i64 0, .int .i64 0, .int .i64 0]).cells = #[.int .i64 0, .int .i64 0, .int .i64 0] from rfl, tkV_zero] at h
  exact h
/-- the first j copied, the rest still 0 -/
def uptoY (l : List Tk3) (n j : Nat) : List Tk3 := l.take j ++ List.replicate (n - j) (0, 0, 0)
theorem uptoY_zero (l : List Tk3) (n : Nat) : uptoY l n 0 = List.replicate n (0, 0, 0) := by simp [uptoY]
theorem uptoY_len {l : List Tk3} {n j : Nat} (hl : l.length = n) (h : j ≤ n) : (uptoY l n j).length = n := by simp [uptoY]; omega
theorem uptoY_all {l : List Tk3} {n : Nat} (hl : l.length = n) : uptoY l n n = l := by simp [uptoY]; exact List.take_of_length_le (by omega)
theorem uptoY_set {l : List Tk3} {n j : Nat} (hl : l.length = n) (h : j < n) (hj : j < l.length) : (uptoY l n j).set j l[j] = uptoY l n (j + 1) := by
  have h1 : (l.take j).length = j := by simp; omega
  unfold uptoY
  obtain ⟨m, hm⟩ : ∃ m, n - j = m + 1 := ⟨n - j - 1, by omega⟩
  rw [hm, show n - (j + 1) = m by omega, List.replicate_succ, List.set_append_right _ _ (by omega), h1, Nat.sub_self, List.set_cons_zero, List.take_succ_eq_append_getElem hj, List.append_assoc]
  rfl
theorem keepY {w W W' : World} {b c o m : Nat} {x y z x' y' z' : Value} (hb : Below W.heap.size W W') (h : W.cell? ⟨b, o, none⟩ = some x ∧ W.cell? ⟨b, o + 1, none⟩ = some y ∧ W.cell? ⟨b, o + 2, none⟩ = some z ∧ W.cell? ⟨c, m, none⟩ = some x' ∧ W.cell? ⟨c, m + 1, none⟩ = some y' ∧ W.cell? ⟨c, m + 2, none⟩ = some z' ∧ Below w.heap.size w W) :
    W'.cell? ⟨b, o, none⟩ = some x ∧ W'.cell? ⟨b, o + 1, none⟩ = some y ∧ W'.cell? ⟨b, o + 2, none⟩ = some z ∧ W'.cell? ⟨c, m, none⟩ = some x' ∧ W'.cell? ⟨c, m + 1, none⟩ = some y' ∧ W'.cell? ⟨c, m + 2, none⟩ = some z' ∧ Below w.heap.size w W' := by
  obtain ⟨h0, h1, h2, h3, h4, h5, h6⟩ := h
  have l1 := World.block_lt_of_cell? W ⟨b, o, none⟩ h0
  have l2 := World.block_lt_of_cell? W ⟨c, m, none⟩ h3
  exact ⟨(hb.cell (p := ⟨b, o, none⟩) l1).trans h0, (hb.cell (p := ⟨b, o + 1, none⟩) l1).trans h1, (hb.cell (p := ⟨b, o + 2, none⟩) l1).trans h2, (hb.cell (p := ⟨c, m, none⟩) l2).trans h3, (hb.cell (p := ⟨c, m + 1, none⟩) l2).trans h4, (hb.cell (p := ⟨c, m + 2, none⟩) l2).trans h5, h6.trans (hb.mono h6.size)⟩
end Go.Proofs.YtdifmjcghaoilaaGreatDoor

namespace Go.Proofs.YtdifmjcghaoilaaGreatDoor
open Go.RowKit Go.PlainAid
set_option linter.unusedVariables false
set_option linter.unusedSimpArgs false

theorem menuokS' (a : Int) (b : Bool) (n d : Int) (s : List UInt8) (S : ByteArray) (hS : (⟨s.toArray⟩ : ByteArray) = S) (B : Bool) (hB : okM ⟨a, b, n, d, s⟩ = B) (w : World) : Calls Tryz.prog 86 #[.agg #[.int .i64 a, .bool b, .int .i64 n, .int .i64 d, .string S]] w fun e w' => e = .returned (.bool B) ∧ Below w.heap.size w w' := by
  subst hS
  exact menuokS ⟨a, b, n, d, s⟩ B hB w
theorem topS' (a : Int) (b : Bool) (n d : Int) (s : List UInt8) (S : ByteArray) (hS : (⟨s.toArray⟩ : ByteArray) = S) (key : Int) (r : Pr) (hr : topM ⟨a, b, n, d, s⟩ key = r) (w : World) : Calls Tryz.prog 87 #[.agg #[.int .i64 a, .bool b, .int .i64 n, .int .i64 d, .string S], .int .i64 key] w fun e w' => e = .returned (.tuple #[mnV r.m, ordV r.k r.n r.d r.v, .bool r.t]) ∧ Below w.heap.size w w' := by
  subst hS
  exact topS ⟨a, b, n, d, s⟩ key r hr w
theorem numS' (s : List UInt8) (S : ByteArray) (hS : (⟨s.toArray⟩ : ByteArray) = S) (z : Int) (hz : numF s = z) (hf : ∀ x ∈ s, figB x = true) (hl : s.length ≤ 4) (w : World) : Calls Tryz.prog 88 #[.string S] w fun e w' => e = .returned (.int .i64 z) ∧ w' = w := by
  subst hS
  exact numS s z hz hf hl w
theorem one_text (b : UInt8) (w : World) : (convert 22 9 (.slice (some ⟨w.heap.size, 0, none⟩) 1 1)).run Tryz.prog (w.alloc (.cells #[.int .u8 (b.toNat : Int)] 5)) = .ok (.string ⟨[b].toArray⟩) (w.alloc (.cells #[.int .u8 (b.toNat : Int)] 5)) :=
  run_convert_bytes_back (P := Tryz.prog) _ 22 9 5 ⟨w.heap.size, 0, none⟩ 1 [b] Tryz.underlying22 Tryz.underlying5 Tryz.underlying9 (fun j hj => by
    obtain rfl : j = 0 := by simpa using hj
    simp [Addr.add])
theorem key_byte {key : Int} (h : 48 ≤ key ∧ key ≤ 57) : ∃ x : UInt8, (x.toNat : Int) = key ∧ UInt8.ofNat key.toNat = x := by
  refine ⟨UInt8.ofNat key.toNat, ?_, rfl⟩
  have : (UInt8.ofNat key.toNat).toNat = key.toNat := by simp; omega
  rw [this]
  omega
set_option maxRecDepth 100000 in
set_option maxHeartbeats 4000000 in
theorem pressS (m : Mn) (key : Int) (r : Pr) (hr : pressM m key = r) (w : World) : Calls Tryz.prog 55 #[mnV m, .int .i64 key] w fun e w' => e = .returned (.tuple #[mnV r.m, ordV r.k r.n r.d r.v, .bool r.t]) ∧ Below w.heap.size w w' := by
  obtain ⟨a, b, n, d, s⟩ := m
  obtain ⟨S, hS⟩ : ∃ S : ByteArray, (⟨s.toArray⟩ : ByteArray) = S := ⟨_, rfl⟩
  obtain ⟨h1, h2, h3, h4, h5⟩ := box3m w (.cells #[.int .i64 a, .bool b, .int .i64 n, .int .i64 d, .string S] 32) (.cells #[.int .i64 0, .bool false, .int .i64 0, .int .i64 0, .string ⟨#[]⟩] 32) (.cells #[.int .i64 0, .int .i64 0, .int .i64 0, .int .i64 0] 82)
  have HP0 : Hid (_ = _) := h1
  have HZ0 : Hid (_ = _) := h2
  have HO0 : Hid (_ = _) := h3
  have HB0 : Hid (Below _ _ _) := h4
  have p0 := box5_cells h1
  clear h1 h2 h3 h4 h5
  unfold mnV ordV
  dsimp only
  rw [hS]
  have HR : Hid (pressM ⟨a, b, n, d, s⟩ key = r) := hr
  have HS : Hid ((⟨s.toArray⟩ : ByteArray) = S) := hS
  have hsz := txt_size hS
  obtain ⟨B, hB⟩ : ∃ B, okM ⟨a, b, n, d, s⟩ = B := ⟨_, rfl⟩
  have HOK : Hid (okM ⟨a, b, n, d, s⟩ = B) := hB
  clear hr hS hB
  go_enter Tryz.func55, Tryz.ntmps55
  go_wp2_with fail
  refine (menuokS' a b n d s S HS.out B HOK.out _).mono ?_
  rintro e w1 ⟨rfl, hb1⟩
  have HB1 : Hid (Below w.heap.size w w1) := bel_on (Nat.le_refl _) HB0.out hb1
  have HP1 : Hid (w1.heap[w.heap.size]? = some (.cells #[.int .i64 a, .bool b, .int .i64 n, .int .i64 d, .string S] 32)) := row_on HP0.out hb1
  have HZ1 : Hid (w1.heap[w.heap.size + 1]? = some (.cells #[.int .i64 0, .bool false, .int .i64 0, .int .i64 0, .string ⟨#[]⟩] 32)) := row_on HZ0.out hb1
  have HO1 : Hid (w1.heap[w.heap.size + 2]? = some (.cells #[.int .i64 0, .int .i64 0, .int .i64 0, .int .i64 0] 82)) := row_on HO0.out hb1
  have p1 := box5_cells HP1.out
  clear hb1 HB0 HP0 HZ0 HO0 p0
  cases B
  · obtain rfl : noP ⟨a, b, n, d, s⟩ = r := by rw [← HR.out]; unfold pressM; rw [if_pos HOK.out]
    clear HR
    go_upto_region 2 with fail
    go_wp2_with (refine listStoreM rfl rfl _ _ _ rfl rfl (w.heap.size + 1) (a) (b) (n) (d) (S) rfl rfl HZ1.out ?_)
    intro w8 hput
    have HB8 : Hid (Below w.heap.size w w8) := hput.2.2.2 _ _ (Nat.le_succ _) HB1.out
    have HO8 : Hid (w8.heap[w.heap.size + 2]? = some (.cells #[.int .i64 0, .int .i64 0, .int .i64 0, .int .i64 0] 82)) := hput.far HO1.out (by omega)
    have HZ8 : Hid (w8.heap[w.heap.size + 1]? = some (.cells #[.int .i64 a, .bool b, .int .i64 n, .int .i64 d, .string S] 32)) := hput.1
    clear hput
    go_wp2_with (refine listStoreO rfl rfl _ _ _ rfl rfl (w.heap.size + 2) (0) (0) (0) (0) rfl rfl HO8.out ?_)
    intro w9 hput
    have HB9 : Hid (Below w.heap.size w w9) := hput.2.2.2 _ _ (by omega) HB8.out
    have zz := box5_cells (hput.far HZ8.out (by omega))
    have yy := box4_cells hput.1
    clear hput HB8 HO8 HZ8
    go_wp2
    refine bodyPost_ret (v := .tuple #[.agg #[.int .i64 a, .bool b, .int .i64 n, .int .i64 d, .string S], .agg #[.int .i64 0, .int .i64 0, .int .i64 0, .int .i64 0], .bool false]) (by simp only [results, Tryz.results55]; simp [go_sem, zz, yy]) rfl ⟨(by rw [← HS.out]; rfl), HB9.out⟩
  have HOF := (okM_iff _).1 HOK.out
  have HFG : Hid (∀ x ∈ s, figB x = true) := HOF.2.1
  have hlen : s.length ≤ 4 := HOF.1.2.2.2
  have HR1 : Hid ((if a = 1 then topM ⟨a, b, n, d, s⟩ key else if 48 ≤ key ∧ key ≤ 57 then (if s.length < 4 then noP ⟨a, b, n, d, s ++ [UInt8.ofNat key.toNat]⟩ else noP ⟨a, b, n, d, s⟩) else if key = 99 then noP newM else if key ≠ 10 then noP ⟨a, b, n, d, s⟩ else if a = 2 then noP ⟨3, b, numF s, d, []⟩ else if a = 3 then noP ⟨4, b, n, numF s, []⟩ else endM ⟨a, b, n, d, s⟩) = r) := by
    have h := HR.out
    unfold pressM at h
    rw [if_neg (by rw [HOK.out]; decide)] at h
    exact h
  have ha4 : 1 ≤ a ∧ a ≤ 4 := HOF.1.1
  clear HR HOK HOF
  by_cases a1 : a = 1
  · have HT : Hid (topM ⟨a, b, n, d, s⟩ key = r) := by have h := HR1.out; rw [if_pos a1] at h; exact h
    have q1 : (a == 1) = true := by simpa using a1
    clear HR1 a1 ha4
    obtain ⟨⟨a2, b2, n2, d2, s2⟩, k3, n3, d3, v3, t3⟩ := r
    go_wp2_with fail
    refine (topS' a b n d s S HS.out key _ HT.out _).mono ?_
    rintro e w2 ⟨rfl, hb1⟩
    have HB2 : Hid (Below w.heap.size w w2) := bel_on (Nat.le_refl _) HB1.out hb1
    have HP2 : Hid (w2.heap[w.heap.size]? = some (.cells #[.int .i64 a, .bool b, .int .i64 n, .int .i64 d, .string S] 32)) := row_on HP1.out hb1
    have HZ2 : Hid (w2.heap[w.heap.size + 1]? = some (.cells #[.int .i64 0, .bool false, .int .i64 0, .int .i64 0, .string ⟨#[]⟩] 32)) := row_on HZ1.out hb1
    have HO2 : Hid (w2.heap[w.heap.size + 2]? = some (.cells #[.int .i64 0, .int .i64 0, .int .i64 0, .int .i64 0] 82)) := row_on HO1.out hb1
    have p2 := box5_cells HP2.out
    clear hb1 HB1 HP1 HZ1 HO1 p1
    unfold mnV ordV
    dsimp only
    go_wp2_with (refine listStoreM rfl rfl _ _ _ rfl rfl (w.heap.size + 1) (a2) (b2) (n2) (d2) (⟨s2.toArray⟩) rfl rfl HZ2.out ?_)
    intro w8 hput
    have HB8 : Hid (Below w.heap.size w w8) := hput.2.2.2 _ _ (Nat.le_succ _) HB2.out
    have HO8 : Hid (w8.heap[w.heap.size + 2]? = some (.cells #[.int .i64 0, .int .i64 0, .int .i64 0, .int .i64 0] 82)) := hput.far HO2.out (by omega)
    have HZ8 : Hid (w8.heap[w.heap.size + 1]? = some (.cells #[.int .i64 a2, .bool b2, .int .i64 n2, .int .i64 d2, .string ⟨s2.toArray⟩] 32)) := hput.1
    clear hput
    go_wp2_with (refine listStoreO rfl rfl _ _ _ rfl rfl (w.heap.size + 2) (k3) (n3) (d3) (v3) rfl rfl HO8.out ?_)
    intro w9 hput
    have HB9 : Hid (Below w.heap.size w w9) := hput.2.2.2 _ _ (by omega) HB8.out
    have zz := box5_cells (hput.far HZ8.out (by omega))
    have yy := box4_cells hput.1
    clear hput HB8 HO8 HZ8
    go_wp2
    refine bodyPost_ret (v := .tuple #[.agg #[.int .i64 a2, .bool b2, .int .i64 n2, .int .i64 d2, .string ⟨s2.toArray⟩], .agg #[.int .i64 k3, .int .i64 n3, .int .i64 d3, .int .i64 v3], .bool t3]) (by simp only [results, Tryz.results55]; simp [go_sem, zz, yy]) rfl ⟨rfl, HB9.out⟩
  have q1 : (a == 1) = false := by simpa using a1
  by_cases hk : 48 ≤ key ∧ key ≤ 57
  · by_cases h4 : S.size < 4
    · obtain ⟨x, hx, hx2⟩ := key_byte hk
      obtain rfl : noP ⟨a, b, n, d, s ++ [x]⟩ = r := by rw [← HR1.out, if_neg a1, if_pos hk, if_pos (by omega), hx2]
      clear HR1 hx2
      subst hx
      have hk0 : (48 : Int) ≤ x.toNat := hk.1
      have hk1 : (x.toNat : Int) ≤ 57 := hk.2
      have qx : IntKind.u8.wrap (x.toNat : Int) = x.toNat := by rw [IntKind.wrap_u8]; omega
      have h4' : (S.size : Int) < 4 := by omega
      have hone := one_text x w1
      have HSX : Hid ((⟨(s ++ [x]).toArray⟩ : ByteArray) = S ++ (⟨#[x]⟩ : ByteArray)) := by show _ = _; rw [← HS.out, txt_one]
      have HB2 : Hid (Below w.heap.size w (w1.alloc (.cells #[.int .u8 (x.toNat : Int)] 5))) := bel_on (Nat.le_refl _) HB1.out (alM _ _)
      have HP2 : Hid ((w1.alloc (.cells #[.int .u8 (x.toNat : Int)] 5)).heap[w.heap.size]? = some (.cells #[.int .i64 a, .bool b, .int .i64 n, .int .i64 d, .string S] 32)) := row_on HP1.out (alM _ _)
      have HZ2 : Hid ((w1.alloc (.cells #[.int .u8 (x.toNat : Int)] 5)).heap[w.heap.size + 1]? = some (.cells #[.int .i64 0, .bool false, .int .i64 0, .int .i64 0, .string ⟨#[]⟩] 32)) := row_on HZ1.out (alM _ _)
      have HO2 : Hid ((w1.alloc (.cells #[.int .u8 (x.toNat : Int)] 5)).heap[w.heap.size + 2]? = some (.cells #[.int .i64 0, .int .i64 0, .int .i64 0, .int .i64 0] 82)) := row_on HO1.out (alM _ _)
      have p2 := box5_cells HP2.out
      have hsS : S.size ≤ 4 := by omega
      clear hk
      go_wp2_with (refine listStoreT rfl rfl _ _ _ rfl rfl w.heap.size 4 (S ++ (⟨#[x]⟩ : ByteArray)) rfl rfl HP2.out (by simp) ?_)
      intro w3 hput
      clear hone HB1 HP1 HZ1 HO1 p1
      generalize hSX : S ++ (⟨#[x]⟩ : ByteArray) = SX at *
      have HB3 : Hid (Below w.heap.size w w3) := hput.2.2.2 _ _ (Nat.le_refl _) HB2.out
      have HP3 : Hid (w3.heap[w.heap.size]? = some (.cells #[.int .i64 a, .bool b, .int .i64 n, .int .i64 d, .string SX] 32)) := hput.1
      have HZ3 : Hid (w3.heap[w.heap.size + 1]? = some (.cells #[.int .i64 0, .bool false, .int .i64 0, .int .i64 0, .string ⟨#[]⟩] 32)) := hput.far HZ2.out (by omega)
      have HO3 : Hid (w3.heap[w.heap.size + 2]? = some (.cells #[.int .i64 0, .int .i64 0, .int .i64 0, .int .i64 0] 82)) := hput.far HO2.out (by omega)
      have p3 := box5_cells HP3.out
      clear hput HB2 HP2 HZ2 HO2 p2
      go_upto_region 8 with fail
      go_wp2_with (refine listStoreM rfl rfl _ _ _ rfl rfl (w.heap.size + 1) (a) (b) (n) (d) (SX) rfl rfl HZ3.out ?_)
      intro w8 hput
      have HB8 : Hid (Below w.heap.size w w8) := hput.2.2.2 _ _ (Nat.le_succ _) HB3.out
      have HO8 : Hid (w8.heap[w.heap.size + 2]? = some (.cells #[.int .i64 0, .int .i64 0, .int .i64 0, .int .i64 0] 82)) := hput.far HO3.out (by omega)
      have HZ8 : Hid (w8.heap[w.heap.size + 1]? = some (.cells #[.int .i64 a, .bool b, .int .i64 n, .int .i64 d, .string SX] 32)) := hput.1
      clear hput
      go_wp2_with (refine listStoreO rfl rfl _ _ _ rfl rfl (w.heap.size + 2) (0) (0) (0) (0) rfl rfl HO8.out ?_)
      intro w9 hput
      have HB9 : Hid (Below w.heap.size w w9) := hput.2.2.2 _ _ (by omega) HB8.out
      have zz := box5_cells (hput.far HZ8.out (by omega))
      have yy := box4_cells hput.1
      clear hput HB8 HO8 HZ8
      go_wp2
      refine bodyPost_ret (v := .tuple #[.agg #[.int .i64 a, .bool b, .int .i64 n, .int .i64 d, .string SX], .agg #[.int .i64 0, .int .i64 0, .int .i64 0, .int .i64 0], .bool false]) (by simp only [results, Tryz.results55]; simp [go_sem, zz, yy]) rfl ⟨(by rw [← HSX.out]; rfl), HB9.out⟩
    · obtain rfl : noP ⟨a, b, n, d, s⟩ = r := by rw [← HR1.out, if_neg a1, if_pos hk, if_neg (by omega)]
      clear HR1
      have hk0 : (48 : Int) ≤ key := hk.1
      have hk1 : key ≤ 57 := hk.2
      have h4' : ¬ (S.size : Int) < 4 := by omega
      clear hk
      go_upto_region 8 with fail
      go_wp2_with (refine listStoreM rfl rfl _ _ _ rfl rfl (w.heap.size + 1) (a) (b) (n) (d) (S) rfl rfl HZ1.out ?_)
      intro w8 hput
      have HB8 : Hid (Below w.heap.size w w8) := hput.2.2.2 _ _ (Nat.le_succ _) HB1.out
      have HO8 : Hid (w8.heap[w.heap.size + 2]? = some (.cells #[.int .i64 0, .int .i64 0, .int .i64 0, .int .i64 0] 82)) := hput.far HO1.out (by omega)
      have HZ8 : Hid (w8.heap[w.heap.size + 1]? = some (.cells #[.int .i64 a, .bool b, .int .i64 n, .int .i64 d, .string S] 32)) := hput.1
      clear hput
      go_wp2_with (refine listStoreO rfl rfl _ _ _ rfl rfl (w.heap.size + 2) (0) (0) (0) (0) rfl rfl HO8.out ?_)
      intro w9 hput
      have HB9 : Hid (Below w.heap.size w w9) := hput.2.2.2 _ _ (by omega) HB8.out
      have zz := box5_cells (hput.far HZ8.out (by omega))
      have yy := box4_cells hput.1
      clear hput HB8 HO8 HZ8
      go_wp2
      refine bodyPost_ret (v := .tuple #[.agg #[.int .i64 a, .bool b, .int .i64 n, .int .i64 d, .string S], .agg #[.int .i64 0, .int .i64 0, .int .i64 0, .int .i64 0], .bool false]) (by simp only [results, Tryz.results55]; simp [go_sem, zz, yy]) rfl ⟨(by rw [← HS.out]; rfl), HB9.out⟩
  have HR2 : Hid ((if key = 99 then noP newM else if key ≠ 10 then noP ⟨a, b, n, d, s⟩ else if a = 2 then noP ⟨3, b, numF s, d, []⟩ else if a = 3 then noP ⟨4, b, n, numF s, []⟩ else endM ⟨a, b, n, d, s⟩) = r) := by
    have h := HR1.out
    rw [if_neg a1, if_neg hk] at h
    exact h
  clear HR1
  -- the key is no figure
  have hkc : key < 48 ∨ (48 ≤ key ∧ 57 < key) := by omega
  by_cases k99 : key = 99
  · obtain rfl : noP newM = r := by rw [← HR2.out, if_pos k99]
    clear HR2
    subst k99
    go_wp2_with fail
    refine (menunewS _).mono ?_
    rintro e w2 ⟨rfl, hb1⟩
    unfold mnV newM
    dsimp only
    have HB2 : Hid (Below w.heap.size w w2) := bel_on (Nat.le_refl _) HB1.out hb1
    have HP2 : Hid (w2.heap[w.heap.size]? = some (.cells #[.int .i64 a, .bool b, .int .i64 n, .int .i64 d, .string S] 32)) := row_on HP1.out hb1
    have HZ2 : Hid (w2.heap[w.heap.size + 1]? = some (.cells #[.int .i64 0, .bool false, .int .i64 0, .int .i64 0, .string ⟨#[]⟩] 32)) := row_on HZ1.out hb1
    have HO2 : Hid (w2.heap[w.heap.size + 2]? = some (.cells #[.int .i64 0, .int .i64 0, .int .i64 0, .int .i64 0] 82)) := row_on HO1.out hb1
    have p2 := box5_cells HP2.out
    clear hb1 HB1 HP1 HZ1 HO1 p1
    go_wp2_with (refine listStoreM rfl rfl _ _ _ rfl rfl (w.heap.size + 1) (1) (false) (0) (0) (⟨#[]⟩) rfl rfl HZ2.out ?_)
    intro w8 hput
    have HB8 : Hid (Below w.heap.size w w8) := hput.2.2.2 _ _ (Nat.le_succ _) HB2.out
    have HO8 : Hid (w8.heap[w.heap.size + 2]? = some (.cells #[.int .i64 0, .int .i64 0, .int .i64 0, .int .i64 0] 82)) := hput.far HO2.out (by omega)
    have HZ8 : Hid (w8.heap[w.heap.size + 1]? = some (.cells #[.int .i64 1, .bool false, .int .i64 0, .int .i64 0, .string ⟨#[]⟩] 32)) := hput.1
    clear hput
    go_wp2_with (refine listStoreO rfl rfl _ _ _ rfl rfl (w.heap.size + 2) (0) (0) (0) (0) rfl rfl HO8.out ?_)
    intro w9 hput
    have HB9 : Hid (Below w.heap.size w w9) := hput.2.2.2 _ _ (by omega) HB8.out
    have zz := box5_cells (hput.far HZ8.out (by omega))
    have yy := box4_cells hput.1
    clear hput HB8 HO8 HZ8
    go_wp2
    refine bodyPost_ret (v := .tuple #[.agg #[.int .i64 1, .bool false, .int .i64 0, .int .i64 0, .string ⟨#[]⟩], .agg #[.int .i64 0, .int .i64 0, .int .i64 0, .int .i64 0], .bool false]) (by simp only [results, Tryz.results55]; simp [go_sem, zz, yy]) rfl ⟨rfl, HB9.out⟩
  have q99 : (key == 99) = false := by simpa using k99
  by_cases k10 : key = 10
  case neg =>
    obtain rfl : noP ⟨a, b, n, d, s⟩ = r := by rw [← HR2.out, if_neg k99, if_pos k10]
    clear HR2
    have q10 : (key != 10) = true := by simpa using k10
    rcases hkc with hk0 | hk0
    · clear k99 k10 hk
      go_upto_region 12 with fail
      go_wp2_with (refine listStoreM rfl rfl _ _ _ rfl rfl (w.heap.size + 1) (a) (b) (n) (d) (S) rfl rfl HZ1.out ?_)
      intro w8 hput
      have HB8 : Hid (Below w.heap.size w w8) := hput.2.2.2 _ _ (Nat.le_succ _) HB1.out
      have HO8 : Hid (w8.heap[w.heap.size + 2]? = some (.cells #[.int .i64 0, .int .i64 0, .int .i64 0, .int .i64 0] 82)) := hput.far HO1.out (by omega)
      have HZ8 : Hid (w8.heap[w.heap.size + 1]? = some (.cells #[.int .i64 a, .bool b, .int .i64 n, .int .i64 d, .string S] 32)) := hput.1
      clear hput
      go_wp2_with (refine listStoreO rfl rfl _ _ _ rfl rfl (w.heap.size + 2) (0) (0) (0) (0) rfl rfl HO8.out ?_)
      intro w9 hput
      have HB9 : Hid (Below w.heap.size w w9) := hput.2.2.2 _ _ (by omega) HB8.out
      have zz := box5_cells (hput.far HZ8.out (by omega))
      have yy := box4_cells hput.1
      clear hput HB8 HO8 HZ8
      go_wp2
      refine bodyPost_ret (v := .tuple #[.agg #[.int .i64 a, .bool b, .int .i64 n, .int .i64 d, .string S], .agg #[.int .i64 0, .int .i64 0, .int .i64 0, .int .i64 0], .bool false]) (by simp only [results, Tryz.results55]; simp [go_sem, zz, yy]) rfl ⟨(by rw [← HS.out]; rfl), HB9.out⟩
    · have hk1 := hk0.1
      have hk2 : ¬ key ≤ 57 := by omega
      clear k99 k10 hk hk0
      go_upto_region 12 with fail
      go_wp2_with (refine listStoreM rfl rfl _ _ _ rfl rfl (w.heap.size + 1) (a) (b) (n) (d) (S) rfl rfl HZ1.out ?_)
      intro w8 hput
      have HB8 : Hid (Below w.heap.size w w8) := hput.2.2.2 _ _ (Nat.le_succ _) HB1.out
      have HO8 : Hid (w8.heap[w.heap.size + 2]? = some (.cells #[.int .i64 0, .int .i64 0, .int .i64 0, .int .i64 0] 82)) := hput.far HO1.out (by omega)
      have HZ8 : Hid (w8.heap[w.heap.size + 1]? = some (.cells #[.int .i64 a, .bool b, .int .i64 n, .int .i64 d, .string S] 32)) := hput.1
      clear hput
      go_wp2_with (refine listStoreO rfl rfl _ _ _ rfl rfl (w.heap.size + 2) (0) (0) (0) (0) rfl rfl HO8.out ?_)
      intro w9 hput
      have HB9 : Hid (Below w.heap.size w w9) := hput.2.2.2 _ _ (by omega) HB8.out
      have zz := box5_cells (hput.far HZ8.out (by omega))
      have yy := box4_cells hput.1
      clear hput HB8 HO8 HZ8
      go_wp2
      refine bodyPost_ret (v := .tuple #[.agg #[.int .i64 a, .bool b, .int .i64 n, .int .i64 d, .string S], .agg #[.int .i64 0, .int .i64 0, .int .i64 0, .int .i64 0], .bool false]) (by simp only [results, Tryz.results55]; simp [go_sem, zz, yy]) rfl ⟨(by rw [← HS.out]; rfl), HB9.out⟩
  have HR3 : Hid ((if a = 2 then noP ⟨3, b, numF s, d, []⟩ else if a = 3 then noP ⟨4, b, n, numF s, []⟩ else endM ⟨a, b, n, d, s⟩) = r) := by
    have h := HR2.out
    rw [if_neg k99, if_neg (fun h => h k10)] at h
    exact h
  clear HR2 hk hkc k99 q99
  subst k10
  obtain ⟨z, hz⟩ : ∃ z, numF s = z := ⟨_, rfl⟩
  rw [hz] at HR3
  have HZF : Hid (numF s = z) := hz
  clear hz
  go_wp2_with fail
  refine (numS' s S HS.out z HZF.out HFG.out hlen _).mono ?_
  rintro e w2 ⟨rfl, hw⟩
  obtain rfl : w1 = w2 := hw.symm
  clear hw
  go_wp2_with (refine listStoreT rfl rfl _ _ _ rfl rfl w.heap.size 4 (⟨#[]⟩ : ByteArray) rfl rfl HP1.out (by simp) ?_)
  intro w2 hput
  have HB2 : Hid (Below w.heap.size w w2) := hput.2.2.2 _ _ (Nat.le_refl _) HB1.out
  have HP2 : Hid (w2.heap[w.heap.size]? = some (.cells #[.int .i64 a, .bool b, .int .i64 n, .int .i64 d, .string ⟨#[]⟩] 32)) := hput.1
  have HZ2 : Hid (w2.heap[w.heap.size + 1]? = some (.cells #[.int .i64 0, .bool false, .int .i64 0, .int .i64 0, .string ⟨#[]⟩] 32)) := hput.far HZ1.out (by omega)
  have HO2 : Hid (w2.heap[w.heap.size + 2]? = some (.cells #[.int .i64 0, .int .i64 0, .int .i64 0, .int .i64 0] 82)) := hput.far HO1.out (by omega)
  have p2 := box5_cells HP2.out
  clear hput HB1 HP1 HZ1 HO1 p1
  by_cases a2 : a = 2
  · obtain rfl : noP ⟨3, b, z, d, []⟩ = r := by rw [← HR3.out, if_pos a2]
    clear HR3 HZF HFG HS q1 a1 ha4
    subst a2
    go_wp2_with (refine listStoreI rfl rfl _ _ _ rfl rfl w.heap.size 2 z rfl rfl HP2.out (by simp) ?_)
    intro w3 hput
    have HB3 : Hid (Below w.heap.size w w3) := hput.2.2.2 _ _ (Nat.le_refl _) HB2.out
    have HP3 : Hid (w3.heap[w.heap.size]? = some (.cells #[.int .i64 2, .bool b, .int .i64 z, .int .i64 d, .string ⟨#[]⟩] 32)) := hput.1
    have HZ3 : Hid (w3.heap[w.heap.size + 1]? = some (.cells #[.int .i64 0, .bool false, .int .i64 0, .int .i64 0, .string ⟨#[]⟩] 32)) := hput.far HZ2.out (by omega)
    have HO3 : Hid (w3.heap[w.heap.size + 2]? = some (.cells #[.int .i64 0, .int .i64 0, .int .i64 0, .int .i64 0] 82)) := hput.far HO2.out (by omega)
    have p3 := box5_cells HP3.out
    clear hput HB2 HP2 HZ2 HO2 p2
    go_wp2_with (refine listStoreI rfl rfl _ _ _ rfl rfl w.heap.size 0 3 rfl rfl HP3.out (by simp) ?_)
    intro w4 hput
    have HB4 : Hid (Below w.heap.size w w4) := hput.2.2.2 _ _ (Nat.le_refl _) HB3.out
    have HP4 : Hid (w4.heap[w.heap.size]? = some (.cells #[.int .i64 3, .bool b, .int .i64 z, .int .i64 d, .string ⟨#[]⟩] 32)) := hput.1
    have HZ4 : Hid (w4.heap[w.heap.size + 1]? = some (.cells #[.int .i64 0, .bool false, .int .i64 0, .int .i64 0, .string ⟨#[]⟩] 32)) := hput.far HZ3.out (by omega)
    have HO4 : Hid (w4.heap[w.heap.size + 2]? = some (.cells #[.int .i64 0, .int .i64 0, .int .i64 0, .int .i64 0] 82)) := hput.far HO3.out (by omega)
    have p4 := box5_cells HP4.out
    clear hput HB3 HP3 HZ3 HO3 p3
    go_upto_region 19 with fail
    go_wp2_with (refine listStoreM rfl rfl _ _ _ rfl rfl (w.heap.size + 1) (3) (b) (z) (d) (⟨#[]⟩) rfl rfl HZ4.out ?_)
    intro w8 hput
    have HB8 : Hid (Below w.heap.size w w8) := hput.2.2.2 _ _ (Nat.le_succ _) HB4.out
    have HO8 : Hid (w8.heap[w.heap.size + 2]? = some (.cells #[.int .i64 0, .int .i64 0, .int .i64 0, .int .i64 0] 82)) := hput.far HO4.out (by omega)
    have HZ8 : Hid (w8.heap[w.heap.size + 1]? = some (.cells #[.int .i64 3, .bool b, .int .i64 z, .int .i64 d, .string ⟨#[]⟩] 32)) := hput.1
    clear hput
    go_wp2_with (refine listStoreO rfl rfl _ _ _ rfl rfl (w.heap.size + 2) (0) (0) (0) (0) rfl rfl HO8.out ?_)
    intro w9 hput
    have HB9 : Hid (Below w.heap.size w w9) := hput.2.2.2 _ _ (by omega) HB8.out
    have zz := box5_cells (hput.far HZ8.out (by omega))
    have yy := box4_cells hput.1
    clear hput HB8 HO8 HZ8
    go_wp2
    refine bodyPost_ret (v := .tuple #[.agg #[.int .i64 3, .bool b, .int .i64 z, .int .i64 d, .string ⟨#[]⟩], .agg #[.int .i64 0, .int .i64 0, .int .i64 0, .int .i64 0], .bool false]) (by simp only [results, Tryz.results55]; simp [go_sem, zz, yy]) rfl ⟨rfl, HB9.out⟩
  have q2 : (a == 2) = false := by simpa using a2
  by_cases a3 : a = 3
  · obtain rfl : noP ⟨4, b, n, z, []⟩ = r := by rw [← HR3.out, if_neg a2, if_pos a3]
    clear HR3 HZF HFG HS q1 a1 ha4 a2 q2
    subst a3
    go_wp2_with (refine listStoreI rfl rfl _ _ _ rfl rfl w.heap.size 3 z rfl rfl HP2.out (by simp) ?_)
    intro w3 hput
    have HB3 : Hid (Below w.heap.size w w3) := hput.2.2.2 _ _ (Nat.le_refl _) HB2.out
    have HP3 : Hid (w3.heap[w.heap.size]? = some (.cells #[.int .i64 3, .bool b, .int .i64 n, .int .i64 z, .string ⟨#[]⟩] 32)) := hput.1
    have HZ3 : Hid (w3.heap[w.heap.size + 1]? = some (.cells #[.int .i64 0, .bool false, .int .i64 0, .int .i64 0, .string ⟨#[]⟩] 32)) := hput.far HZ2.out (by omega)
    have HO3 : Hid (w3.heap[w.heap.size + 2]? = some (.cells #[.int .i64 0, .int .i64 0, .int .i64 0, .int .i64 0] 82)) := hput.far HO2.out (by omega)
    have p3 := box5_cells HP3.out
    clear hput HB2 HP2 HZ2 HO2 p2
    go_wp2_with (refine listStoreI rfl rfl _ _ _ rfl rfl w.heap.size 0 4 rfl rfl HP3.out (by simp) ?_)
    intro w4 hput
    have HB4 : Hid (Below w.heap.size w w4) := hput.2.2.2 _ _ (Nat.le_refl _) HB3.out
    have HP4 : Hid (w4.heap[w.heap.size]? = some (.cells #[.int .i64 4, .bool b, .int .i64 n, .int .i64 z, .string ⟨#[]⟩] 32)) := hput.1
    have HZ4 : Hid (w4.heap[w.heap.size + 1]? = some (.cells #[.int .i64 0, .bool false, .int .i64 0, .int .i64 0, .string ⟨#[]⟩] 32)) := hput.far HZ3.out (by omega)
    have HO4 : Hid (w4.heap[w.heap.size + 2]? = some (.cells #[.int .i64 0, .int .i64 0, .int .i64 0, .int .i64 0] 82)) := hput.far HO3.out (by omega)
    have p4 := box5_cells HP4.out
    clear hput HB3 HP3 HZ3 HO3 p3
    go_upto_region 23 with fail
    go_wp2_with (refine listStoreM rfl rfl _ _ _ rfl rfl (w.heap.size + 1) (4) (b) (n) (z) (⟨#[]⟩) rfl rfl HZ4.out ?_)
    intro w8 hput
    have HB8 : Hid (Below w.heap.size w w8) := hput.2.2.2 _ _ (Nat.le_succ _) HB4.out
    have HO8 : Hid (w8.heap[w.heap.size + 2]? = some (.cells #[.int .i64 0, .int .i64 0, .int .i64 0, .int .i64 0] 82)) := hput.far HO4.out (by omega)
    have HZ8 : Hid (w8.heap[w.heap.size + 1]? = some (.cells #[.int .i64 4, .bool b, .int .i64 n, .int .i64 z, .string ⟨#[]⟩] 32)) := hput.1
    clear hput
    go_wp2_with (refine listStoreO rfl rfl _ _ _ rfl rfl (w.heap.size + 2) (0) (0) (0) (0) rfl rfl HO8.out ?_)
    intro w9 hput
    have HB9 : Hid (Below w.heap.size w w9) := hput.2.2.2 _ _ (by omega) HB8.out
    have zz := box5_cells (hput.far HZ8.out (by omega))
    have yy := box4_cells hput.1
    clear hput HB8 HO8 HZ8
    go_wp2
    refine bodyPost_ret (v := .tuple #[.agg #[.int .i64 4, .bool b, .int .i64 n, .int .i64 z, .string ⟨#[]⟩], .agg #[.int .i64 0, .int .i64 0, .int .i64 0, .int .i64 0], .bool false]) (by simp only [results, Tryz.results55]; simp [go_sem, zz, yy]) rfl ⟨rfl, HB9.out⟩
  have q3 : (a == 3) = false := by simpa using a3
  have HE : Hid (endM ⟨a, b, n, d, s⟩ = r) := by have h := HR3.out; rw [if_neg a2, if_neg a3] at h; exact h
  obtain rfl : a = 4 := by omega
  clear HR3 HFG HS q1 q2 q3 a1 a2 a3 ha4 hlen hsz
  have HB3 : Hid (Below w.heap.size w (w2.alloc (.cells #[.int .i64 1, .int .i64 n, .int .i64 d, .int .i64 z] 82))) := bel_on (Nat.le_refl _) HB2.out (alM _ _)
  have HP3 : Hid ((w2.alloc (.cells #[.int .i64 1, .int .i64 n, .int .i64 d, .int .i64 z] 82)).heap[w.heap.size]? = some (.cells #[.int .i64 4, .bool b, .int .i64 n, .int .i64 d, .string ⟨#[]⟩] 32)) := row_on HP2.out (alM _ _)
  have HZ3 : Hid ((w2.alloc (.cells #[.int .i64 1, .int .i64 n, .int .i64 d, .int .i64 z] 82)).heap[w.heap.size + 1]? = some (.cells #[.int .i64 0, .bool false, .int .i64 0, .int .i64 0, .string ⟨#[]⟩] 32)) := row_on HZ2.out (alM _ _)
  have HO3 : Hid ((w2.alloc (.cells #[.int .i64 1, .int .i64 n, .int .i64 d, .int .i64 z] 82)).heap[w.heap.size + 2]? = some (.cells #[.int .i64 0, .int .i64 0, .int .i64 0, .int .i64 0] 82)) := row_on HO2.out (alM _ _)
  have HY3 : Hid ((w2.alloc (.cells #[.int .i64 1, .int .i64 n, .int .i64 d, .int .i64 z] 82)).heap[w2.heap.size]? = some (.cells #[.int .i64 1, .int .i64 n, .int .i64 d, .int .i64 z] 82)) := heap_new w2 _
  have p3 := box5_cells HP3.out
  have hY : w.heap.size + 2 < w2.heap.size := row_lt HO2.out
  obtain ⟨Y, hYe⟩ : ∃ Y, w2.heap.size = Y := ⟨_, rfl⟩
  cases b
  · go_upto_region 25 with fail
    rw [hYe] at HY3 hY
    try rw [hYe]
    clear hYe
    obtain ⟨B, hB⟩ := ord_bool (1) (n) (d) (z)
    have HBO : Hid (B = true ↔ OrdR (1) (n) (d) (z)) := hB
    have y3 := box4_cells HY3.out
    clear hB
    go_wp2_with fail
    refine (ordokS (1) (n) (d) (z) B HBO.out _).mono ?_
    rintro e w5 ⟨rfl, hb1⟩
    have HY5 : Hid (w5.heap[Y]? = some (.cells #[.int .i64 1, .int .i64 n, .int .i64 d, .int .i64 z] 82)) := row_on HY3.out hb1
    clear y3 HY3
    have HB5 : Hid (Below w.heap.size w w5) := bel_on (Nat.le_refl _) HB3.out hb1
    have HP5 : Hid (w5.heap[w.heap.size]? = some (.cells #[.int .i64 4, .bool false, .int .i64 n, .int .i64 d, .string ⟨#[]⟩] 32)) := row_on HP3.out hb1
    have HZ5 : Hid (w5.heap[w.heap.size + 1]? = some (.cells #[.int .i64 0, .bool false, .int .i64 0, .int .i64 0, .string ⟨#[]⟩] 32)) := row_on HZ3.out hb1
    have HO5 : Hid (w5.heap[w.heap.size + 2]? = some (.cells #[.int .i64 0, .int .i64 0, .int .i64 0, .int .i64 0] 82)) := row_on HO3.out hb1
    have p5 := box5_cells HP5.out
    clear hb1 HB3 HP3 HZ3 HO3 p3
    have y5 := box4_cells HY5.out
    cases B
    · obtain rfl : noP newM = r := by rw [← HE.out]; unfold endM; rw [if_neg Bool.false_ne_true, if_neg (by intro h; have := HBO.out.2 (Or.inl ⟨rfl, by rw [HZF.out] at h; exact h⟩); cases this)]
      clear HE HBO
      go_wp2_with fail
      refine (menunewS _).mono ?_
      rintro e w6 ⟨rfl, hb1⟩
      unfold mnV newM
      dsimp only
      have HB6 : Hid (Below w.heap.size w w6) := bel_on (Nat.le_refl _) HB5.out hb1
      have HP6 : Hid (w6.heap[w.heap.size]? = some (.cells #[.int .i64 4, .bool false, .int .i64 n, .int .i64 d, .string ⟨#[]⟩] 32)) := row_on HP5.out hb1
      have HZ6 : Hid (w6.heap[w.heap.size + 1]? = some (.cells #[.int .i64 0, .bool false, .int .i64 0, .int .i64 0, .string ⟨#[]⟩] 32)) := row_on HZ5.out hb1
      have HO6 : Hid (w6.heap[w.heap.size + 2]? = some (.cells #[.int .i64 0, .int .i64 0, .int .i64 0, .int .i64 0] 82)) := row_on HO5.out hb1
      have p6 := box5_cells HP6.out
      clear hb1 HB5 HP5 HZ5 HO5 p5
      go_wp2_with (refine listStoreM rfl rfl _ _ _ rfl rfl (w.heap.size + 1) (1) (false) (0) (0) (⟨#[]⟩) rfl rfl HZ6.out ?_)
      intro w8 hput
      have HB8 : Hid (Below w.heap.size w w8) := hput.2.2.2 _ _ (Nat.le_succ _) HB6.out
      have HO8 : Hid (w8.heap[w.heap.size + 2]? = some (.cells #[.int .i64 0, .int .i64 0, .int .i64 0, .int .i64 0] 82)) := hput.far HO6.out (by omega)
      have HZ8 : Hid (w8.heap[w.heap.size + 1]? = some (.cells #[.int .i64 1, .bool false, .int .i64 0, .int .i64 0, .string ⟨#[]⟩] 32)) := hput.1
      clear hput
      go_wp2_with (refine listStoreO rfl rfl _ _ _ rfl rfl (w.heap.size + 2) (0) (0) (0) (0) rfl rfl HO8.out ?_)
      intro w9 hput
      have HB9 : Hid (Below w.heap.size w w9) := hput.2.2.2 _ _ (by omega) HB8.out
      have zz := box5_cells (hput.far HZ8.out (by omega))
      have yy := box4_cells hput.1
      clear hput HB8 HO8 HZ8
      go_wp2
      refine bodyPost_ret (v := .tuple #[.agg #[.int .i64 1, .bool false, .int .i64 0, .int .i64 0, .string ⟨#[]⟩], .agg #[.int .i64 0, .int .i64 0, .int .i64 0, .int .i64 0], .bool false]) (by simp only [results, Tryz.results55]; simp [go_sem, zz, yy]) rfl ⟨rfl, HB9.out⟩
    · obtain rfl : (⟨newM, 1, n, d, z, true⟩ : Pr) = r := by rw [← HE.out]; unfold endM; rw [if_neg Bool.false_ne_true, if_pos (by have h := HBO.out.1 rfl; unfold OrdR at h; show (1 ≤ d ∧ d ≤ 1000) ∧ (1 ≤ n ∧ n ≤ 1000) ∧ n ≤ 3 * d ∧ (1 ≤ numF s ∧ numF s ≤ 5000); rw [HZF.out]; omega)]; show _ = (⟨newM, 1, n, d, numF s, true⟩ : Pr); rw [HZF.out]
      clear HE HBO
      go_upto_region 29 with fail
      refine wp_region_held_drew (S := fun w' => w'.cell? ⟨Y, 0, none⟩ = some (.int .i64 1) ∧ w'.cell? ⟨Y, 1, none⟩ = some (.int .i64 n) ∧ w'.cell? ⟨Y, 2, none⟩ = some (.int .i64 d) ∧ w'.cell? ⟨Y, 3, none⟩ = some (.int .i64 z) ∧ Below w.heap.size w w') (by kernel_rfl) (ky4 (w' := w5.drew) HY5.out HB5.out.drew) (fun hHeld => ?_)
      refine wpAnyH_take (i := 1) (v := ?_) rfl (by kernel_rfl) (by kernel_rfl) (by kernel_rfl) (fun _ _ _ h => h) (Or.inl ⟨by rfl, ?_⟩) (by assumption) ?_
      rotate_left
      · intro w_ hSw; (try dsimp only at hSw); go_simp <;> with_reducible rfl
      try simp only [Act.put, List.setIfInBounds_toArray, List.set_cons_zero, List.set_cons_succ, List.getElem_toArray, List.getElem_cons_zero, List.getElem_cons_succ]
      refine wpAnyH_ready (rs := [0]) (by kernel_rfl) (by simp) ?_
      refine AllReadyH.cons rfl (fun J hJ => ?_) AllReadyH.nil
      go_simp
      go_at_call 31
      refine (menunewS _).mono ?_
      rintro e w6 ⟨rfl, hbc⟩
      have HB6 : Hid (Below w.heap.size w w6) := bel_on (Nat.le_refl _) HB5.out.drew hbc
      have HY6 : Hid (w6.heap[Y]? = some (.cells #[.int .i64 1, .int .i64 n, .int .i64 d, .int .i64 z] 82)) := row_on (w := w5.drew) HY5.out hbc
      have HZ6 : Hid (w6.heap[w.heap.size + 1]? = some (.cells #[.int .i64 0, .bool false, .int .i64 0, .int .i64 0, .string ⟨#[]⟩] 32)) := row_on (w := w5.drew) HZ5.out hbc
      have HO6 : Hid (w6.heap[w.heap.size + 2]? = some (.cells #[.int .i64 0, .int .i64 0, .int .i64 0, .int .i64 0] 82)) := row_on (w := w5.drew) HO5.out hbc
      unfold mnV newM
      dsimp only
      clear hbc HB5 HY5 HZ5 HO5 HP5 p5 y5
      go_wp2_with fail
      refine hJ.out _ _ (ky4 HY6.out HB6.out) (fun hHeld1 => ?_)
      clear hJ J hHeld
      try simp only [Act.put, List.setIfInBounds_toArray, List.set_cons_zero, List.set_cons_succ, List.getElem_toArray, List.getElem_cons_zero, List.getElem_cons_succ]
      refine wpAnyH_ready (rs := [2]) (by kernel_rfl) (by simp) ?_
      refine AllReadyH.cons rfl (fun J hJ => ?_) AllReadyH.nil
      refine storeM_any rfl rfl _ _ _ rfl rfl (w.heap.size + 1) 1 false 0 0 ⟨#[]⟩ rfl rfl HZ6.out ?_
      intro w7 hput
      have HB7 : Hid (Below w.heap.size w w7) := hput.2.2.2 _ _ (Nat.le_succ _) HB6.out
      have HY7 : Hid (w7.heap[Y]? = some (.cells #[.int .i64 1, .int .i64 n, .int .i64 d, .int .i64 z] 82)) := hput.far HY6.out (by omega)
      have HZ7 : Hid (w7.heap[w.heap.size + 1]? = some (.cells #[.int .i64 1, .bool false, .int .i64 0, .int .i64 0, .string ⟨#[]⟩] 32)) := hput.1
      have HO7 : Hid (w7.heap[w.heap.size + 2]? = some (.cells #[.int .i64 0, .int .i64 0, .int .i64 0, .int .i64 0] 82)) := hput.far HO6.out (by omega)
      clear hput HB6 HY6 HZ6 HO6
      refine hJ.out _ _ (ky4 HY7.out HB7.out) (fun hHeld2 => ?_)
      clear hJ J hHeld1
      try simp only [Act.put, List.setIfInBounds_toArray, List.set_cons_zero, List.set_cons_succ, List.getElem_toArray, List.getElem_cons_zero, List.getElem_cons_succ]
      refine wpAnyH_ready (rs := [3]) (by kernel_rfl) (by simp) ?_
      refine AllReadyH.cons rfl (fun J hJ => ?_) AllReadyH.nil
      refine storeO_any rfl rfl _ _ _ rfl rfl (w.heap.size + 2) 1 n d z rfl rfl HO7.out ?_
      intro w9 hput
      have HB9 : Hid (Below w.heap.size w w9) := hput.2.2.2 _ _ (by omega) HB7.out
      have HY9 : Hid (w9.heap[Y]? = some (.cells #[.int .i64 1, .int .i64 n, .int .i64 d, .int .i64 z] 82)) := hput.far HY7.out (by omega)
      have zz := box5_cells (hput.far HZ7.out (by omega))
      have yy := box4_cells hput.1
      clear hput HB7 HY7 HZ7 HO7
      refine hJ.out _ _ (ky4 HY9.out HB9.out) (fun hHeld3 => ?_)
      clear hJ J hHeld2
      try simp only [Act.put, List.setIfInBounds_toArray, List.set_cons_zero, List.set_cons_succ, List.getElem_toArray, List.getElem_cons_zero, List.getElem_cons_succ]
      refine wpAnyH_take (i := 4) (v := ?_) rfl (by kernel_rfl) (by kernel_rfl) (by kernel_rfl) (fun _ _ _ h => h) (Or.inl ⟨by rfl, ?_⟩) (by assumption) ?_
      rotate_left
      · intro w_ hSw; (try dsimp only at hSw); go_simp <;> with_reducible rfl
      try simp only [Act.put, List.setIfInBounds_toArray, List.set_cons_zero, List.set_cons_succ, List.getElem_toArray, List.getElem_cons_zero, List.getElem_cons_succ]
      refine wpAnyH_done (by kernel_rfl) ?_ _
      clear hHeld3
      go_wp2
      refine bodyPost_ret (v := .tuple #[.agg #[.int .i64 1, .bool false, .int .i64 0, .int .i64 0, .string ⟨#[]⟩], .agg #[.int .i64 1, .int .i64 n, .int .i64 d, .int .i64 z], .bool true]) (by simp only [results, Tryz.results55]; simp [go_sem, zz, yy]) rfl ⟨rfl, HB9.out⟩
  · have HB4a : Hid (Below w.heap.size w (w2.alloc (.cells #[.int .i64 1, .int .i64 n, .int .i64 d, .int .i64 z] 82))) := HB3.out
    go_upto_region 26 with fail
    rw [hYe] at HY3 hY
    try rw [hYe]
    clear hYe HB4a
    go_wp2_with (refine listStoreO rfl rfl _ _ _ rfl rfl Y 2 0 0 z rfl rfl HY3.out ?_)
    intro w4 hput
    have HB4 : Hid (Below w.heap.size w w4) := hput.2.2.2 _ _ (by omega) HB3.out
    have HP4 : Hid (w4.heap[w.heap.size]? = some (.cells #[.int .i64 4, .bool true, .int .i64 n, .int .i64 d, .string ⟨#[]⟩] 32)) := hput.far HP3.out (by omega)
    have HZ4 : Hid (w4.heap[w.heap.size + 1]? = some (.cells #[.int .i64 0, .bool false, .int .i64 0, .int .i64 0, .string ⟨#[]⟩] 32)) := hput.far HZ3.out (by omega)
    have HO4 : Hid (w4.heap[w.heap.size + 2]? = some (.cells #[.int .i64 0, .int .i64 0, .int .i64 0, .int .i64 0] 82)) := hput.far HO3.out (by omega)
    have HY4 : Hid (w4.heap[Y]? = some (.cells #[.int .i64 2, .int .i64 0, .int .i64 0, .int .i64 z] 82)) := hput.1
    have p4 := box5_cells HP4.out
    clear hput HB3 HP3 HZ3 HO3 HY3 p3
    obtain ⟨B, hB⟩ := ord_bool (2) (0) (0) (z)
    have HBO : Hid (B = true ↔ OrdR (2) (0) (0) (z)) := hB
    have y4 := box4_cells HY4.out
    clear hB
    go_wp2_with fail
    refine (ordokS (2) (0) (0) (z) B HBO.out _).mono ?_
    rintro e w5 ⟨rfl, hb1⟩
    have HY5 : Hid (w5.heap[Y]? = some (.cells #[.int .i64 2, .int .i64 0, .int .i64 0, .int .i64 z] 82)) := row_on HY4.out hb1
    clear y4 HY4
    have HB5 : Hid (Below w.heap.size w w5) := bel_on (Nat.le_refl _) HB4.out hb1
    have HP5 : Hid (w5.heap[w.heap.size]? = some (.cells #[.int .i64 4, .bool true, .int .i64 n, .int .i64 d, .string ⟨#[]⟩] 32)) := row_on HP4.out hb1
    have HZ5 : Hid (w5.heap[w.heap.size + 1]? = some (.cells #[.int .i64 0, .bool false, .int .i64 0, .int .i64 0, .string ⟨#[]⟩] 32)) := row_on HZ4.out hb1
    have HO5 : Hid (w5.heap[w.heap.size + 2]? = some (.cells #[.int .i64 0, .int .i64 0, .int .i64 0, .int .i64 0] 82)) := row_on HO4.out hb1
    have p5 := box5_cells HP5.out
    clear hb1 HB4 HP4 HZ4 HO4 p4
    have y5 := box4_cells HY5.out
    cases B
    · obtain rfl : noP newM = r := by rw [← HE.out]; unfold endM; rw [if_pos rfl, if_neg (by intro h; have := HBO.out.2 (Or.inr (Or.inl ⟨rfl, (by rw [HZF.out] at h; exact h), rfl, rfl⟩)); cases this)]
      clear HE HBO
      go_wp2_with fail
      refine (menunewS _).mono ?_
      rintro e w6 ⟨rfl, hb1⟩
      unfold mnV newM
      dsimp only
      have HB6 : Hid (Below w.heap.size w w6) := bel_on (Nat.le_refl _) HB5.out hb1
      have HP6 : Hid (w6.heap[w.heap.size]? = some (.cells #[.int .i64 4, .bool true, .int .i64 n, .int .i64 d, .string ⟨#[]⟩] 32)) := row_on HP5.out hb1
      have HZ6 : Hid (w6.heap[w.heap.size + 1]? = some (.cells #[.int .i64 0, .bool false, .int .i64 0, .int .i64 0, .string ⟨#[]⟩] 32)) := row_on HZ5.out hb1
      have HO6 : Hid (w6.heap[w.heap.size + 2]? = some (.cells #[.int .i64 0, .int .i64 0, .int .i64 0, .int .i64 0] 82)) := row_on HO5.out hb1
      have p6 := box5_cells HP6.out
      clear hb1 HB5 HP5 HZ5 HO5 p5
      go_wp2_with (refine listStoreM rfl rfl _ _ _ rfl rfl (w.heap.size + 1) (1) (false) (0) (0) (⟨#[]⟩) rfl rfl HZ6.out ?_)
      intro w8 hput
      have HB8 : Hid (Below w.heap.size w w8) := hput.2.2.2 _ _ (Nat.le_succ _) HB6.out
      have HO8 : Hid (w8.heap[w.heap.size + 2]? = some (.cells #[.int .i64 0, .int .i64 0, .int .i64 0, .int .i64 0] 82)) := hput.far HO6.out (by omega)
      have HZ8 : Hid (w8.heap[w.heap.size + 1]? = some (.cells #[.int .i64 1, .bool false, .int .i64 0, .int .i64 0, .string ⟨#[]⟩] 32)) := hput.1
      clear hput
      go_wp2_with (refine listStoreO rfl rfl _ _ _ rfl rfl (w.heap.size + 2) (0) (0) (0) (0) rfl rfl HO8.out ?_)
      intro w9 hput
      have HB9 : Hid (Below w.heap.size w w9) := hput.2.2.2 _ _ (by omega) HB8.out
      have zz := box5_cells (hput.far HZ8.out (by omega))
      have yy := box4_cells hput.1
      clear hput HB8 HO8 HZ8
      go_wp2
      refine bodyPost_ret (v := .tuple #[.agg #[.int .i64 1, .bool false, .int .i64 0, .int .i64 0, .string ⟨#[]⟩], .agg #[.int .i64 0, .int .i64 0, .int .i64 0, .int .i64 0], .bool false]) (by simp only [results, Tryz.results55]; simp [go_sem, zz, yy]) rfl ⟨rfl, HB9.out⟩
    · obtain rfl : (⟨newM, 2, 0, 0, z, true⟩ : Pr) = r := by rw [← HE.out]; unfold endM; rw [if_pos rfl, if_pos (by have h := HBO.out.1 rfl; unfold OrdR at h; show 1 ≤ numF s ∧ numF s ≤ 100; rw [HZF.out]; omega)]; show _ = (⟨newM, 2, 0, 0, numF s, true⟩ : Pr); rw [HZF.out]
      clear HE HBO
      go_upto_region 29 with fail
      refine wp_region_held_drew (S := fun w' => w'.cell? ⟨Y, 0, none⟩ = some (.int .i64 2) ∧ w'.cell? ⟨Y, 1, none⟩ = some (.int .i64 0) ∧ w'.cell? ⟨Y, 2, none⟩ = some (.int .i64 0) ∧ w'.cell? ⟨Y, 3, none⟩ = some (.int .i64 z) ∧ Below w.heap.size w w') (by kernel_rfl) (ky4 (w' := w5.drew) HY5.out HB5.out.drew) (fun hHeld => ?_)
      refine wpAnyH_take (i := 1) (v := ?_) rfl (by kernel_rfl) (by kernel_rfl) (by kernel_rfl) (fun _ _ _ h => h) (Or.inl ⟨by rfl, ?_⟩) (by assumption) ?_
      rotate_left
      · intro w_ hSw; (try dsimp only at hSw); go_simp <;> with_reducible rfl
      try simp only [Act.put, List.setIfInBounds_toArray, List.set_cons_zero, List.set_cons_succ, List.getElem_toArray, List.getElem_cons_zero, List.getElem_cons_succ]
      refine wpAnyH_ready (rs := [0]) (by kernel_rfl) (by simp) ?_
      refine AllReadyH.cons rfl (fun J hJ => ?_) AllReadyH.nil
      go_simp
      go_at_call 31
      refine (menunewS _).mono ?_
      rintro e w6 ⟨rfl, hbc⟩
      have HB6 : Hid (Below w.heap.size w w6) := bel_on (Nat.le_refl _) HB5.out.drew hbc
      have HY6 : Hid (w6.heap[Y]? = some (.cells #[.int .i64 2, .int .i64 0, .int .i64 0, .int .i64 z] 82)) := row_on (w := w5.drew) HY5.out hbc
      have HZ6 : Hid (w6.heap[w.heap.size + 1]? = some (.cells #[.int .i64 0, .bool false, .int .i64 0, .int .i64 0, .string ⟨#[]⟩] 32)) := row_on (w := w5.drew) HZ5.out hbc
      have HO6 : Hid (w6.heap[w.heap.size + 2]? = some (.cells #[.int .i64 0, .int .i64 0, .int .i64 0, .int .i64 0] 82)) := row_on (w := w5.drew) HO5.out hbc
      unfold mnV newM
      dsimp only
      clear hbc HB5 HY5 HZ5 HO5 HP5 p5 y5
      go_wp2_with fail
      refine hJ.out _ _ (ky4 HY6.out HB6.out) (fun hHeld1 => ?_)
      clear hJ J hHeld
      try simp only [Act.put, List.setIfInBounds_toArray, List.set_cons_zero, List.set_cons_succ, List.getElem_toArray, List.getElem_cons_zero, List.getElem_cons_succ]
      refine wpAnyH_ready (rs := [2]) (by kernel_rfl) (by simp) ?_
      refine AllReadyH.cons rfl (fun J hJ => ?_) AllReadyH.nil
      refine storeM_any rfl rfl _ _ _ rfl rfl (w.heap.size + 1) 1 false 0 0 ⟨#[]⟩ rfl rfl HZ6.out ?_
      intro w7 hput
      have HB7 : Hid (Below w.heap.size w w7) := hput.2.2.2 _ _ (Nat.le_succ _) HB6.out
      have HY7 : Hid (w7.heap[Y]? = some (.cells #[.int .i64 2, .int .i64 0, .int .i64 0, .int .i64 z] 82)) := hput.far HY6.out (by omega)
      have HZ7 : Hid (w7.heap[w.heap.size + 1]? = some (.cells #[.int .i64 1, .bool false, .int .i64 0, .int .i64 0, .string ⟨#[]⟩] 32)) := hput.1
      have HO7 : Hid (w7.heap[w.heap.size + 2]? = some (.cells #[.int .i64 0, .int .i64 0, .int .i64 0, .int .i64 0] 82)) := hput.far HO6.out (by omega)
      clear hput HB6 HY6 HZ6 HO6
      refine hJ.out _ _ (ky4 HY7.out HB7.out) (fun hHeld2 => ?_)
      clear hJ J hHeld1
      try simp only [Act.put, List.setIfInBounds_toArray, List.set_cons_zero, List.set_cons_succ, List.getElem_toArray, List.getElem_cons_zero, List.getElem_cons_succ]
      refine wpAnyH_ready (rs := [3]) (by kernel_rfl) (by simp) ?_
      refine AllReadyH.cons rfl (fun J hJ => ?_) AllReadyH.nil
      refine storeO_any rfl rfl _ _ _ rfl rfl (w.heap.size + 2) 2 0 0 z rfl rfl HO7.out ?_
      intro w9 hput
      have HB9 : Hid (Below w.heap.size w w9) := hput.2.2.2 _ _ (by omega) HB7.out
      have HY9 : Hid (w9.heap[Y]? = some (.cells #[.int .i64 2, .int .i64 0, .int .i64 0, .int .i64 z] 82)) := hput.far HY7.out (by omega)
      have zz := box5_cells (hput.far HZ7.out (by omega))
      have yy := box4_cells hput.1
      clear hput HB7 HY7 HZ7 HO7
      refine hJ.out _ _ (ky4 HY9.out HB9.out) (fun hHeld3 => ?_)
      clear hJ J hHeld2
      try simp only [Act.put, List.setIfInBounds_toArray, List.set_cons_zero, List.set_cons_succ, List.getElem_toArray, List.getElem_cons_zero, List.getElem_cons_succ]
      refine wpAnyH_take (i := 4) (v := ?_) rfl (by kernel_rfl) (by kernel_rfl) (by kernel_rfl) (fun _ _ _ h => h) (Or.inl ⟨by rfl, ?_⟩) (by assumption) ?_
      rotate_left
      · intro w_ hSw; (try dsimp only at hSw); go_simp <;> with_reducible rfl
      try simp only [Act.put, List.setIfInBounds_toArray, List.set_cons_zero, List.set_cons_succ, List.getElem_toArray, List.getElem_cons_zero, List.getElem_cons_succ]
      refine wpAnyH_done (by kernel_rfl) ?_ _
      clear hHeld3
      go_wp2
      refine bodyPost_ret (v := .tuple #[.agg #[.int .i64 1, .bool false, .int .i64 0, .int .i64 0, .string ⟨#[]⟩], .agg #[.int .i64 2, .int .i64 0, .int .i64 0, .int .i64 z], .bool true]) (by simp only [results, Tryz.results55]; simp [go_sem, zz, yy]) rfl ⟨rfl, HB9.out⟩
end Go.Proofs.YtdifmjcghaoilaaGreatDoor

namespace Go.Proofs.YtdifmjcghaoilaaGreatDoor
open Go.ChangeShapes Go.WideShapes Go.ChangeAt Go.RowKit Go.PlainAid
set_option linter.unusedVariables false

abbrev In3 := Int × ByteArray × ByteArray
def inV : List In3 → List Value
  | [] => []
  | r :: t => .int .i64 r.1 :: .string r.2.1 :: .string r.2.2 :: inV t
theorem inV_len : ∀ l : List In3, (inV l).length = l.length * 3
  | [] => rfl
  | r :: t => by simp [inV, inV_len t]; omega
theorem inV_append : ∀ x y : List In3, inV (x ++ y) = inV x ++ inV y
  | [], y => rfl
  | r :: t, y => by simp [inV, inV_append t y]
theorem inV_at : ∀ (l : List In3) (j : Nat) (h : j < l.length), (inV l)[j * 3]? = some (.int .i64 l[j].1) ∧ (inV l)[j * 3 + 1]? = some (.string l[j].2.1) ∧ (inV l)[j * 3 + 2]? = some (.string l[j].2.2)
  | [], j, h => by simp at h
  | r :: t, 0, h => by simp [inV]
  | r :: t, j + 1, h => by
    have := inV_at t j (by simpa using h)
    rw [show (j + 1) * 3 = j * 3 + 1 + 1 + 1 by omega, show j * 3 + 1 + 1 + 1 + 2 = j * 3 + 2 + 1 + 1 + 1 by omega]
    simpa [inV] using this
theorem inV_one : ∀ l : List In3, ∀ v ∈ inV l, v.oneCell' = true
  | [], v, h => by cases h
  | r :: t, v, h => by
    rcases List.mem_cons.1 h with rfl | h
    · rfl
    · skip
      rcases List.mem_cons.1 h with rfl | h
      · rfl
      · skip
        rcases List.mem_cons.1 h with rfl | h
        · rfl
        · exact inV_one t v h
theorem infoZ : (Tryz.prog.info? 45).map (fun i => (i.zero, i.size, i.bytes)) = some (some (.agg #[.int .i64 0, .string ⟨#[]⟩, .string ⟨#[]⟩]), 3, 40) := by kernel_rfl
theorem boxZ_cells {w : World} {k : Nat} {t : TypeId} {x y z : Value} (h : w.heap[k]? = some (.cells #[x, y, z] t)) :
    (w.cell? ⟨k, 0, none⟩ = some x ∧ w.cell? ⟨k, 1, none⟩ = some y ∧ w.cell? ⟨k, 2, none⟩ = some z) ∧ w.frozen? ⟨k, 0, none⟩ = false ∧ w.frozen? ⟨k, 1, none⟩ = false ∧ w.frozen? ⟨k, 2, none⟩ = false := by
  refine ⟨⟨?_, ?_, ?_⟩, ?_, ?_, ?_⟩ <;> simp [World.cell?, World.frozen?, h]
/-- a list that is read, wherever it lies -/
def RdZ (w : World) (a : Option Addr) (l : List In3) : Prop := 0 < l.length → ∃ g off, a = some ⟨g, off, none⟩ ∧ ∀ j (h : j < l.length), w.cell? ⟨g, off + j * 3, none⟩ = some (.int .i64 l[j].1) ∧ w.cell? ⟨g, off + j * 3 + 1, none⟩ = some (.string l[j].2.1) ∧ w.cell? ⟨g, off + j * 3 + 2, none⟩ = some (.string l[j].2.2)
theorem RdZ.keep {w w' : World} {a : Option Addr} {l : List In3} {B : Nat} (h : RdZ w a l) (hb : Below B w w') (hB : w.heap.size ≤ B) : RdZ w' a l := fun h0 => by
  obtain ⟨g, off, ha, hc⟩ := h h0
  refine ⟨g, off, ha, fun j hj => ?_⟩
  obtain ⟨h0, h1, h2⟩ := hc j hj
  have hlt := Nat.lt_of_lt_of_le (World.block_lt_of_cell? w ⟨g, off + j * 3, none⟩ h0) hB
  exact ⟨(hb.cell (p := ⟨g, off + j * 3, none⟩) hlt).trans h0, (hb.cell (p := ⟨g, off + j * 3 + 1, none⟩) hlt).trans h1, (hb.cell (p := ⟨g, off + j * 3 + 2, none⟩) hlt).trans h2⟩
theorem RdZ.on {w w' : World} {a : Option Addr} {l : List In3} (h : RdZ w a l) (hb : Below w.heap.size w w') : RdZ w' a l := h.keep hb (Nat.le_refl _)
/-- an owned list -/
def OwnZ (w : World) (B : Nat) (v : Value) (n : Nat) (l : List In3) : Prop := w.ownsRow B 45 3 v n (inV l)
theorem OwnZ.len {w : World} {B n : Nat} {v : Value} {l : List In3} (h : OwnZ w B v n l) : l.length = n := by
  have := h.1; rw [inV_len] at this; omega
theorem OwnZ.rd {w : World} {B n c : Nat} {a : Option Addr} {l : List In3} (h : OwnZ w B (.slice a n c) n l) : RdZ w a l := fun h0 => by
  have hl := h.len
  rcases h.2 with ⟨hv, e⟩ | ⟨g, cap, cur, hv, _⟩
  · omega
  · cases hv
    refine ⟨g, 0, rfl, fun j hj => ?_⟩
    obtain ⟨h0, h1, h2⟩ := inV_at l j hj
    refine ⟨?_, ?_, ?_⟩
    · rw [Nat.zero_add, h.cellAt (j * 3) (by omega)]; exact h0
    · rw [Nat.zero_add, h.cellAt (j * 3 + 1) (by omega)]; exact h1
    · rw [Nat.zero_add, h.cellAt (j * 3 + 2) (by omega)]; exact h2
theorem inV_set : ∀ (l : List In3) (j : Nat) (x : Int) (y z : ByteArray), (((inV l).set (j * 3) (.int .i64 x)).set (j * 3 + 1) (.string y)).set (j * 3 + 2) (.string z) = inV (l.set j (x, y, z))
  | [], j, x, y, z => by simp [inV]
  | r :: l, 0, x, y, z => by simp [inV]
  | r :: l, j + 1, x, y, z => by
    have := inV_set l j x y z
    rw [show (j + 1) * 3 = j * 3 + 1 + 1 + 1 by omega, show j * 3 + 1 + 1 + 1 + 2 = j * 3 + 2 + 1 + 1 + 1 by omega]
    simpa [inV] using this
/-- a block that is such a list, whole -/
def RowZ (w : World) (g : Nat) (l : List In3) : Prop := w.heap[g]? = some (.cells (inV l).toArray 45 (0, 0))
theorem RowZ.lt {w : World} {g : Nat} {l : List In3} (h : RowZ w g l) : g < w.heap.size := row_lt h
theorem RowZ.on {w w' : World} {g : Nat} {l : List In3} (h : RowZ w g l) (hb : Below w.heap.size w w') : RowZ w' g l := row_after h hb (row_lt h)
theorem RowZ.cell {w : World} {g : Nat} {l : List In3} (h : RowZ w g l) (j : Nat) (hj : j < l.length) : w.cell? ⟨g, j * 3, none⟩ = some (.int .i64 l[j].1) ∧ w.cell? ⟨g, j * 3 + 1, none⟩ = some (.string l[j].2.1) ∧ w.cell? ⟨g, j * 3 + 2, none⟩ = some (.string l[j].2.2) := by
  have := inV_at l j hj
  rw [cell_of_row w g (j * 3) _ _ (0, 0) h, cell_of_row w g (j * 3 + 1) _ _ (0, 0) h, cell_of_row w g (j * 3 + 2) _ _ (0, 0) h]
  simpa using this
theorem RowZ.free {w : World} {g : Nat} {l : List In3} (h : RowZ w g l) (j : Nat) : w.frozen? ⟨g, j, none⟩ = false := frozen_of_row w g j _ _ h
theorem RowZ.rd {w : World} {g : Nat} {l : List In3} (h : RowZ w g l) : RdZ w (some ⟨g, 0, none⟩) l := fun _ => ⟨g, 0, rfl, fun j hj => by rw [Nat.zero_add]; exact h.cell j hj⟩
theorem RowZ.set {w : World} {g : Nat} {l : List In3} (h : RowZ w g l) (j : Nat) (x : Int) (y z : ByteArray) : RowZ (((w.setCell ⟨g, j * 3, none⟩ (.int .i64 x)).setCell ⟨g, j * 3 + 1, none⟩ (.string y)).setCell ⟨g, j * 3 + 2, none⟩ (.string z)) g (l.set j (x, y, z)) := by
  unfold RowZ at h ⊢
  have h1 := heap_setCell_same w g (j * 3) _ _ (.int .i64 x) h
  have h2 := heap_setCell_same _ g (j * 3 + 1) _ _ (.string y) h1
  rw [heap_setCell_same _ g (j * 3 + 2) _ _ (.string z) h2, ← inV_set]
  simp
theorem inV_zero (n : Nat) : madeCells #[.int .i64 0, .string ⟨#[]⟩, .string ⟨#[]⟩] (n * 3) = (inV (List.replicate n (0, ⟨#[]⟩, ⟨#[]⟩))).toArray := by
  apply Array.ext
  · simp [madeCells, inV_len]
  · intro j h1 h2
    have hj : j < n * 3 := by simpa [madeCells] using h1
    have h0 : j / 3 < n := by omega
    have hr := inV_at (List.replicate n ((0, ⟨#[]⟩, ⟨#[]⟩) : In3)) (j / 3) (by simpa using h0)
    have hj2 : j < (inV (List.replicate n ((0, ⟨#[]⟩, ⟨#[]⟩) : In3))).length := by simpa using h2
    have h3 : j % 3 = 0 ∨ j % 3 = 1 ∨ j % 3 = 2 := by omega
    rcases h3 with e | e | e
    · have := hr.1
      rw [show j / 3 * 3 = j by omega, List.getElem?_eq_getElem hj2] at this
      have h5 := Option.some.inj this
      simp at h5
      simp [madeCells, e, h5]
    · have := hr.2.1
      rw [show j / 3 * 3 + 1 = j by omega, List.getElem?_eq_getElem hj2] at this
      have h5 := Option.some.inj this
      simp at h5
      simp [madeCells, e, h5]
    · have := hr.2.2
      rw [show j / 3 * 3 + 2 = j by omega, List.getElem?_eq_getElem hj2] at this
      have h5 := Option.some.inj this
      simp at h5
      simp [madeCells, e, h5]
theorem makeZ (n : Nat) (hn : n ≤ 1048576) (w : World) : (Instr.makeSlice 38 (.int .i64 n) (.int .i64 n)).run Tryz.prog w = .ok (.slice (some ⟨w.heap.size, 0, none⟩) n n) (w.alloc (.cells (inV (List.replicate n (0, ⟨#[]⟩, ⟨#[]⟩))).toArray 45)) := by
  obtain ⟨i0, hi, hz0, hz1, hz2⟩ := info_parts infoZ
  have h := run_make (P := Tryz.prog) w 38 45 i0 _ Tryz.underlying38 hi hz0 .i64 .i64 n n (by omega) (Int.le_refl _) (by rw [hz2]; omega) (by omega)
  rw [hz1, Int.toNat_natCast, show (Value.agg #[.int .i64 0, .string ⟨#[]⟩, .string ⟨#[]⟩]).cells = #[.int .i64 0, .string ⟨#[]⟩, .string ⟨#[]⟩] from rfl, inV_zero] at h
  exact h
/-- the first j copied, the rest still 0 -/
def uptoZ (l : List In3) (n j : Nat) : List In3 := l.take j ++ List.replicate (n - j) (0, ⟨#[]⟩, ⟨#[]⟩)
theorem uptoZ_zero (l : List In3) (n : Nat) : uptoZ l n 0 = List.replicate n (0, ⟨#[]⟩, ⟨#[]⟩) := by simp [uptoZ]
theorem uptoZ_len {l : List In3} {n j : Nat} (hl : l.length = n) (h : j ≤ n) : (uptoZ l n j).length = n := by simp [uptoZ]; omega
theorem uptoZ_all {l : List In3} {n : Nat} (hl : l.length = n) : uptoZ l n n = l := by simp [uptoZ]; exact List.take_of_length_le (by omega)
theorem uptoZ_set {l : List In3} {n j : Nat} (hl : l.length = n) (h : j < n) (hj : j < l.length) : (uptoZ l n j).set j l[j] = uptoZ l n (j + 1) := by
  have h1 : (l.take j).length = j := by simp; omega
  unfold uptoZ
  obtain ⟨m, hm⟩ : ∃ m, n - j = m + 1 := ⟨n - j - 1, by omega⟩
  rw [hm, show n - (j + 1) = m by omega, List.replicate_succ, List.set_append_right _ _ (by omega), h1, Nat.sub_self, List.set_cons_zero, List.take_succ_eq_append_getElem hj, List.append_assoc]
  rfl
theorem keepZ {w W W' : World} {b c o m : Nat} {x y z x' y' z' : Value} (hb : Below W.heap.size W W') (h : W.cell? ⟨b, o, none⟩ = some x ∧ W.cell? ⟨b, o + 1, none⟩ = some y ∧ W.cell? ⟨b, o + 2, none⟩ = some z ∧ W.cell? ⟨c, m, none⟩ = some x' ∧ W.cell? ⟨c, m + 1, none⟩ = some y' ∧ W.cell? ⟨c, m + 2, none⟩ = some z' ∧ Below w.heap.size w W) :
    W'.cell? ⟨b, o, none⟩ = some x ∧ W'.cell? ⟨b, o + 1, none⟩ = some y ∧ W'.cell? ⟨b, o + 2, none⟩ = some z ∧ W'.cell? ⟨c, m, none⟩ = some x' ∧ W'.cell? ⟨c, m + 1, none⟩ = some y' ∧ W'.cell? ⟨c, m + 2, none⟩ = some z' ∧ Below w.heap.size w W' := by
  obtain ⟨h0, h1, h2, h3, h4, h5, h6⟩ := h
  have l1 := World.block_lt_of_cell? W ⟨b, o, none⟩ h0
  have l2 := World.block_lt_of_cell? W ⟨c, m, none⟩ h3
  exact ⟨(hb.cell (p := ⟨b, o, none⟩) l1).trans h0, (hb.cell (p := ⟨b, o + 1, none⟩) l1).trans h1, (hb.cell (p := ⟨b, o + 2, none⟩) l1).trans h2, (hb.cell (p := ⟨c, m, none⟩) l2).trans h3, (hb.cell (p := ⟨c, m + 1, none⟩) l2).trans h4, (hb.cell (p := ⟨c, m + 2, none⟩) l2).trans h5, h6.trans (hb.mono h6.size)⟩
end Go.Proofs.YtdifmjcghaoilaaGreatDoor
