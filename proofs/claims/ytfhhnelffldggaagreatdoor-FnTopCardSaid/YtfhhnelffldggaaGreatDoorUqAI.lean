/-
  Lists of Orders: in memory, read, copied, compared, sized.
-/
import Derived.Test.YtfhhnelffldggaaGreatDoorUqAG
import Derived.Deep.Slices
import Derived.OpenShut
import Derived.Maps.AppendAt
import Derived.Laws.AppendOwnNone
import Derived.Test.YtfhhnelffldggaaGreatDoorUqAH
set_option maxRecDepth 100000
set_option maxHeartbeats 16000000
namespace Go.Proofs.YtfhhnelffldggaaGreatDoor
open Go.ChangeShapes Go.WideShapes Go.ChangeAt Go.RowKit Go.PlainAid
set_option linter.unusedVariables false
theorem row_after {w W' : World} {k B : Nat} {o : Obj} (h : w.heap[k]? = some o) (hb : Below B w W') (hk : k < B) : W'.heap[k]? = some o := (hb.block k hk).trans h
theorem add_at (g o j : Nat) : (⟨g, o, none⟩ : Addr).add j = ⟨g, o + j, none⟩ := by
 unfold Addr.add; split <;> simp_all
theorem own_lt {w : World} {B e z n : Nat} {v : Value} {xs : List Value} (h : w.ownsRow B e z v n xs) : ∀ g, v.ownBlock = some g → g < w.heap.size := fun k hk => (h.lt k hk).2
theorem own_ge {w : World} {B e z n : Nat} {v : Value} {xs : List Value} (h : w.ownsRow B e z v n xs) : ∀ g, v.ownBlock = some g → B ≤ g := fun k hk => (h.lt k hk).1
theorem own_keep {w w' : World} {B C e z n : Nat} {v : Value} {xs : List Value} (h : w.ownsRow B e z v n xs) (hb : Below C w w') (hlt : ∀ g, v.ownBlock = some g → g < C) : w'.ownsRow B e z v n xs := by
 refine ⟨h.1, ?_⟩
 rcases h.2 with h2 | ⟨g, cap, cur, rfl, hg, hh, h3⟩
 · exact .inl h2
 · exact .inr ⟨g, cap, cur, rfl, hg, by rw [hb.block g (hlt g rfl)]; exact hh, h3⟩
theorem own_mono {w : World} {B C e z n : Nat} {v : Value} {xs : List Value} (h : w.ownsRow B e z v n xs) (hC : C ≤ B) : w.ownsRow C e z v n xs := by
 refine ⟨h.1, ?_⟩
 rcases h.2 with h2 | ⟨g, cap, cur, rfl, hg, h3⟩
 · exact .inl h2
 · exact .inr ⟨g, cap, cur, rfl, by omega, h3⟩
def odV : List Od4 → List Value
 | [] => []
 | r :: t => .int .i64 r.1 :: .int .i64 r.2.1 :: .int .i64 r.2.2.1 :: .int .i64 r.2.2.2 :: odV t
theorem odV_len : ∀ l : List Od4, (odV l).length = l.length * 4
 | [] => rfl
 | r :: t => by simp [odV, odV_len t]; omega
theorem odV_append : ∀ x y : List Od4, odV (x ++ y) = odV x ++ odV y
 | [], y => rfl
 | r :: t, y => by simp [odV, odV_append t y]
theorem odV_at : ∀ (l : List Od4) (j : Nat) (h : j < l.length), (odV l)[j * 4]? = some (.int .i64 l[j].1) ∧ (odV l)[j * 4 + 1]? = some (.int .i64 l[j].2.1) ∧ (odV l)[j * 4 + 2]? = some (.int .i64 l[j].2.2.1) ∧ (odV l)[j * 4 + 3]? = some (.int .i64 l[j].2.2.2)
 | [], j, h => by simp at h
 | r :: t, 0, h => by simp [odV]
 | r :: t, j + 1, h => by
  have := odV_at t j (by simpa using h)
  rw [show (j + 1) * 4 = j * 4 + 1 + 1 + 1 + 1 by omega, show j * 4 + 1 + 1 + 1 + 1 + 2 = j * 4 + 2 + 1 + 1 + 1 + 1 by omega, show j * 4 + 1 + 1 + 1 + 1 + 3 = j * 4 + 3 + 1 + 1 + 1 + 1 by omega]
  simpa [odV] using this
theorem odV_one : ∀ l : List Od4, ∀ v ∈ odV l, v.oneCell' = true
 | [], v, h => by cases h
 | r :: t, v, h => by
  rcases List.mem_cons.1 h with rfl | h
  · rfl
  ·
   skip
   rcases List.mem_cons.1 h with rfl | h
   · rfl
   ·
    skip
    rcases List.mem_cons.1 h with rfl | h
    · rfl
    ·
     skip
     rcases List.mem_cons.1 h with rfl | h
     · rfl
     · exact odV_one t v h
theorem infoQ : (Tryz.prog.info? 82).map (fun i => (i.zero, i.size, i.bytes)) = some (some (.agg #[.int .i64 0, .int .i64 0, .int .i64 0, .int .i64 0]), 4, 32) := by kernel_rfl
def RdQ (w : World) (a : Option Addr) (l : List Od4) : Prop := 0 < l.length → ∃ g off, a = some ⟨g, off, none⟩ ∧ ∀ j (h : j < l.length), w.cell? ⟨g, off + j * 4, none⟩ = some (.int .i64 l[j].1) ∧ w.cell? ⟨g, off + j * 4 + 1, none⟩ = some (.int .i64 l[j].2.1) ∧ w.cell? ⟨g, off + j * 4 + 2, none⟩ = some (.int .i64 l[j].2.2.1) ∧ w.cell? ⟨g, off + j * 4 + 3, none⟩ = some (.int .i64 l[j].2.2.2)
theorem RdQ.keep {w w' : World} {a : Option Addr} {l : List Od4} {B : Nat} (h : RdQ w a l) (hb : Below B w w') (hB : w.heap.size ≤ B) : RdQ w' a l := fun h0 => by
 obtain ⟨g, off, ha, hc⟩ := h h0
 refine ⟨g, off, ha, fun j hj => ?_⟩
 obtain ⟨h0, h1, h2, h3⟩ := hc j hj
 have hlt := Nat.lt_of_lt_of_le (World.block_lt_of_cell? w ⟨g, off + j * 4, none⟩ h0) hB
 exact ⟨(hb.cell (p := ⟨g, off + j * 4, none⟩) hlt).trans h0, (hb.cell (p := ⟨g, off + j * 4 + 1, none⟩) hlt).trans h1, (hb.cell (p := ⟨g, off + j * 4 + 2, none⟩) hlt).trans h2, (hb.cell (p := ⟨g, off + j * 4 + 3, none⟩) hlt).trans h3⟩
theorem RdQ.on {w w' : World} {a : Option Addr} {l : List Od4} (h : RdQ w a l) (hb : Below w.heap.size w w') : RdQ w' a l := h.keep hb (Nat.le_refl _)
def OwnQ (w : World) (B : Nat) (v : Value) (n : Nat) (l : List Od4) : Prop := w.ownsRow B 82 4 v n (odV l)
theorem OwnQ.len {w : World} {B n : Nat} {v : Value} {l : List Od4} (h : OwnQ w B v n l) : l.length = n := by
 have := h.1; rw [odV_len] at this; omega
theorem OwnQ.rd {w : World} {B n c : Nat} {a : Option Addr} {l : List Od4} (h : OwnQ w B (.slice a n c) n l) : RdQ w a l := fun h0 => by
 have hl := h.len
 rcases h.2 with ⟨hv, e⟩ | ⟨g, cap, cur, hv, _⟩
 · omega
 ·
  cases hv
  refine ⟨g, 0, rfl, fun j hj => ?_⟩
  obtain ⟨h0, h1, h2, h3⟩ := odV_at l j hj
  refine ⟨?_, ?_, ?_, ?_⟩
  · rw [Nat.zero_add, h.cellAt (j * 4) (by omega)]; exact h0
  · rw [Nat.zero_add, h.cellAt (j * 4 + 1) (by omega)]; exact h1
  · rw [Nat.zero_add, h.cellAt (j * 4 + 2) (by omega)]; exact h2
  · rw [Nat.zero_add, h.cellAt (j * 4 + 3) (by omega)]; exact h3
theorem odV_set : ∀ (l : List Od4) (j : Nat) (x y z u : Int), ((((odV l).set (j * 4) (.int .i64 x)).set (j * 4 + 1) (.int .i64 y)).set (j * 4 + 2) (.int .i64 z)).set (j * 4 + 3) (.int .i64 u) = odV (l.set j (x, y, z, u))
 | [], j, x, y, z, u => by simp [odV]
 | r :: l, 0, x, y, z, u => by simp [odV]
 | r :: l, j + 1, x, y, z, u => by
  have := odV_set l j x y z u
  rw [show (j + 1) * 4 = j * 4 + 1 + 1 + 1 + 1 by omega, show j * 4 + 1 + 1 + 1 + 1 + 2 = j * 4 + 2 + 1 + 1 + 1 + 1 by omega, show j * 4 + 1 + 1 + 1 + 1 + 3 = j * 4 + 3 + 1 + 1 + 1 + 1 by omega]
  simpa [odV] using this
def RowQ (w : World) (g : Nat) (l : List Od4) : Prop := w.heap[g]? = some (.cells (odV l).toArray 82 (0, 0))
theorem RowQ.lt {w : World} {g : Nat} {l : List Od4} (h : RowQ w g l) : g < w.heap.size := row_lt h
theorem RowQ.on {w w' : World} {g : Nat} {l : List Od4} (h : RowQ w g l) (hb : Below w.heap.size w w') : RowQ w' g l := row_after h hb (row_lt h)
theorem RowQ.cell {w : World} {g : Nat} {l : List Od4} (h : RowQ w g l) (j : Nat) (hj : j < l.length) : w.cell? ⟨g, j * 4, none⟩ = some (.int .i64 l[j].1) ∧ w.cell? ⟨g, j * 4 + 1, none⟩ = some (.int .i64 l[j].2.1) ∧ w.cell? ⟨g, j * 4 + 2, none⟩ = some (.int .i64 l[j].2.2.1) ∧ w.cell? ⟨g, j * 4 + 3, none⟩ = some (.int .i64 l[j].2.2.2) := by
 have := odV_at l j hj
 rw [cell_of_row w g (j * 4) _ _ (0, 0) h, cell_of_row w g (j * 4 + 1) _ _ (0, 0) h, cell_of_row w g (j * 4 + 2) _ _ (0, 0) h, cell_of_row w g (j * 4 + 3) _ _ (0, 0) h]
 simpa using this
theorem RowQ.free {w : World} {g : Nat} {l : List Od4} (h : RowQ w g l) (j : Nat) : w.frozen? ⟨g, j, none⟩ = false := frozen_of_row w g j _ _ h
theorem RowQ.rd {w : World} {g : Nat} {l : List Od4} (h : RowQ w g l) : RdQ w (some ⟨g, 0, none⟩) l := fun _ => ⟨g, 0, rfl, fun j hj => by rw [Nat.zero_add]; exact h.cell j hj⟩
theorem RowQ.set {w : World} {g : Nat} {l : List Od4} (h : RowQ w g l) (j : Nat) (x y z u : Int) : RowQ ((((w.setCell ⟨g, j * 4, none⟩ (.int .i64 x)).setCell ⟨g, j * 4 + 1, none⟩ (.int .i64 y)).setCell ⟨g, j * 4 + 2, none⟩ (.int .i64 z)).setCell ⟨g, j * 4 + 3, none⟩ (.int .i64 u)) g (l.set j (x, y, z, u)) := by
 unfold RowQ at h ⊢
 have h1 := heap_setCell_same w g (j * 4) _ _ (.int .i64 x) h
 have h2 := heap_setCell_same _ g (j * 4 + 1) _ _ (.int .i64 y) h1
 have h3 := heap_setCell_same _ g (j * 4 + 2) _ _ (.int .i64 z) h2
 rw [heap_setCell_same _ g (j * 4 + 3) _ _ (.int .i64 u) h3, ← odV_set]
 simp
def OwnE (w : World) (B g n c : Nat) (l : List Od4) : Prop := w.ownsRow B 82 4 (.slice (some ⟨g, 0, none⟩) n c) n (odV l)
theorem OwnE.own {w : World} {B g n c : Nat} {l : List Od4} (h : OwnE w B g n c l) : OwnQ w B (.slice (some ⟨g, 0, none⟩) n c) n l := h
theorem OwnE.len {w : World} {B g n c : Nat} {l : List Od4} (h : OwnE w B g n c l) : l.length = n := h.own.len
theorem OwnE.ge {w : World} {B g n c : Nat} {l : List Od4} (h : OwnE w B g n c l) : B ≤ g := own_ge h g rfl
theorem OwnE.lt {w : World} {B g n c : Nat} {l : List Od4} (h : OwnE w B g n c l) : g < w.heap.size := own_lt h g rfl
theorem OwnE.on {w w' : World} {B g n c : Nat} {l : List Od4} (h : OwnE w B g n c l) (hb : Below w.heap.size w w') : OwnE w' B g n c l := own_keep h hb (own_lt h)
theorem OwnE.mono {w : World} {B C g n c : Nat} {l : List Od4} (h : OwnE w B g n c l) (hC : C ≤ B) : OwnE w C g n c l := own_mono h hC
theorem OwnE.rd {w : World} {B g n c : Nat} {l : List Od4} (h : OwnE w B g n c l) : RdQ w (some ⟨g, 0, none⟩) l := h.own.rd
theorem OwnE.drew {w : World} {B g n c : Nat} {l : List Od4} (h : OwnE w B g n c l) : OwnE w.drew B g n c l := h
theorem OwnE.same {w w' : World} {B g n c : Nat} {l : List Od4} (h : OwnE w B g n c l) (hg : w'.heap[g]? = w.heap[g]?) : OwnE w' B g n c l := by
 refine ⟨h.1, ?_⟩
 rcases h.2 with h2 | ⟨g', cap, cur, e, h3, h4, h5⟩
 · exact .inl h2
 ·
  cases e
  exact .inr ⟨_, _, _, rfl, h3, hg.trans h4, h5⟩
theorem OwnE.put {w w' : World} {B g n c k : Nat} {l : List Od4} {o : Obj} (h : OwnE w B g n c l) (hp : PutM w w' k o) (hne : g ≠ k) : OwnE w' B g n c l := h.same (hp.2.1 g hne)
theorem ownE_empty (w : World) (B : Nat) (hB : B ≤ w.heap.size) : OwnE (w.alloc (.cells #[] 82)) B w.heap.size 0 0 [] :=
 ⟨rfl, Or.inr ⟨_, 0, #[], rfl, hB, by show (w.heap.push _)[w.heap.size]? = _; simp, Nat.le_refl _, by decide, rfl, rfl⟩⟩
theorem RdQ.cells {w : World} {ad : Addr} {l : List Od4} (h : RdQ w (some ad) l) : ∀ j u, (odV l)[j]? = some u → w.cell? (ad.add j) = some u := by
 intro j v hv
 have hj : j < l.length * 4 := by
  rcases Nat.lt_or_ge j (l.length * 4) with h' | h'
  · exact h'
  · rw [List.getElem?_eq_none (by rw [odV_len]; exact h')] at hv; cases hv
 obtain ⟨g, off, ha, hc⟩ := h (by omega)
 cases ha
 obtain ⟨a0, a1, a2, a3⟩ := odV_at l (j / 4) (by omega)
 obtain ⟨b0, b1, b2, b3⟩ := hc (j / 4) (by omega)
 rw [add_at]
 have e4 : j % 4 = 0 ∨ j % 4 = 1 ∨ j % 4 = 2 ∨ j % 4 = 3 := by omega
 rcases e4 with e | e | e | e
 ·
  rw [show j / 4 * 4 = j by omega, hv] at a0
  rw [show off + j / 4 * 4 = off + j by omega] at b0
  rw [b0]; exact a0.symm
 ·
  rw [show j / 4 * 4 + 1 = j by omega, hv] at a1
  rw [show off + j / 4 * 4 + 1 = off + j by omega] at b1
  rw [b1]; exact a1.symm
 ·
  rw [show j / 4 * 4 + 2 = j by omega, hv] at a2
  rw [show off + j / 4 * 4 + 2 = off + j by omega] at b2
  rw [b2]; exact a2.symm
 ·
  rw [show j / 4 * 4 + 3 = j by omega, hv] at a3
  rw [show off + j / 4 * 4 + 3 = off + j by omega] at b3
  rw [b3]; exact a3.symm
theorem run_appQ (W : World) (ty : TypeId) (B g n c : Nat) (l : List Od4) (q : Option Addr) (m cx : Nat) (l' : List Od4) (hown : OwnE W B g n c l) (hl : l'.length = m) (hq : q = none → m = 0 ∧ cx = 0) (hr : RdQ W q l') (hn : n + m ≤ 3000000) (hB : B ≤ W.heap.size) :
  ∃ g' c' w', (Builtin.append_ #[78, 78] ty #[.slice (some ⟨g, 0, none⟩) n c, .slice q m cx]).run Tryz.prog W = .ok (.slice (some ⟨g', 0, none⟩) (n + m) c') w' ∧ OwnE w' B g' (n + m) c' (l ++ l') ∧ W.grownBy w' (some g) := by
 obtain ⟨i0, hi, hz0, hz1, hz2⟩ := info_parts infoQ
 cases q with
 | none =>
  obtain ⟨rfl, rfl⟩ := hq rfl
  refine ⟨g, c, W, ?_, ?_, World.grownBy.refl _ _⟩
  · exact run_append_owned_none (P := Tryz.prog) (w := W) B 78 ty 82 i0 4 Tryz.underlying78 hi _ n _ hown
  · rw [List.length_eq_zero_iff.1 hl, List.append_nil]; exact hown
 | some ad =>
  obtain ⟨v', w', hrun, h2, h3, h4, h5⟩ := run_append_own_at (P := Tryz.prog) W B 78 ty 82 i0 (.agg #[.int .i64 0, .int .i64 0, .int .i64 0, .int .i64 0]) 4 32 Tryz.underlying78 hi hz0 hz1 hz2 rfl (by decide) _ n _ hown ad m cx (odV l') (by rw [odV_len, hl]) hr.cells (odV_one l') (by unfold maxLen; omega) (by omega) hB
  rcases h2.2 with ⟨hv, _⟩ | ⟨g', cap, cur, rfl, _⟩
  · have := h4.1 hv; simp at this
  ·
   refine ⟨g', cap, w', hrun, ?_, h3⟩
   unfold OwnE
   rw [odV_append]
   exact h2
theorem wpQ {o : Oper} {a : Act} {K : Act → World → Prop} {Q : Exit → Act → World → Prop} (W : World) (s x : Operand)
  (ho : o.op = .call { callee := .builtin .append, args := #[s, x], argTypes := #[78, 78] }) (B g n c : Nat) (l : List Od4) (q : Option Addr) (m cx : Nat) (l' : List Od4)
  (hs : a.eval s = .slice (some ⟨g, 0, none⟩) n c) (hx : a.eval x = .slice q m cx) (hown : OwnE W B g n c l) (hl : l'.length = m) (hq : q = none → m = 0 ∧ cx = 0) (hr : RdQ W q l') (hn : n + m ≤ 3000000) (hB : B ≤ W.heap.size)
  (h : ∀ g' c' w', OwnE w' B g' (n + m) c' (l ++ l') → W.grownBy w' (some g) → K (a.put o.dst (.slice (some ⟨g', 0, none⟩) (n + m) c')) w') : o.wp Tryz.prog a W K Q := by
 obtain ⟨g', c', w', hrun, h2, h3⟩ := run_appQ W o.type B g n c l q m cx l' hown hl hq hr hn hB
 unfold Oper.wp execOp
 simp only [ho, resolve, invoke, builtin, Sem.run_bind, Sem.run_pure, Result.andThen_ok, List.map_toArray, List.map_cons, List.map_nil, hs, hx, hrun]
 exact h g' c' w' h2 h3
theorem listQ {ops : Array Oper} {rest : List Oper} {o : Oper} {a : Act} {Q : Exit → Act → World → Prop} {W : World} (hgd : o.guard = none) (s x : Operand)
  (ho : o.op = .call { callee := .builtin .append, args := #[s, x], argTypes := #[78, 78] }) (B g n c : Nat) (l : List Od4) (q : Option Addr) (m cx : Nat) (l' : List Od4)
  (hs : a.eval s = .slice (some ⟨g, 0, none⟩) n c) (hx : a.eval x = .slice q m cx) (hown : OwnE W B g n c l) (hl : l'.length = m) (hq : q = none → m = 0 ∧ cx = 0) (hr : RdQ W q l') (hn : n + m ≤ 3000000) (hB : B ≤ W.heap.size)
  (h : ∀ g' c' w', OwnE w' B g' (n + m) c' (l ++ l') → W.grownBy w' (some g) → wpList Tryz.prog ops Q rest (a.put o.dst (.slice (some ⟨g', 0, none⟩) (n + m) c')) w') : wpList Tryz.prog ops Q (o :: rest) a W :=
 wpList_plain hgd fun _ hK => wpQ W s x ho B g n c l q m cx l' hs hx hown hl hq hr hn hB fun g' c' w' h2 h3 => hK _ _ (h g' c' w' h2 h3)
theorem one_rowQ (w : World) (x y z u : Int) : RowQ (w.alloc (oB x y z u)) w.heap.size [(x, y, z, u)] := heap_new w _
abbrev Tk3 := Int × Int × Int
def tkV : List Tk3 → List Value
 | [] => []
 | r :: t => .int .i64 r.1 :: .int .i64 r.2.1 :: .int .i64 r.2.2 :: tkV t
theorem tkV_len : ∀ l : List Tk3, (tkV l).length = l.length * 3
 | [] => rfl
 | r :: t => by simp [tkV, tkV_len t]; omega
theorem tkV_append : ∀ x y : List Tk3, tkV (x ++ y) = tkV x ++ tkV y
 | [], y => rfl
 | r :: t, y => by simp [tkV, tkV_append t y]
theorem tkV_at : ∀ (l : List Tk3) (j : Nat) (h : j < l.length), (tkV l)[j * 3]? = some (.int .i64 l[j].1) ∧ (tkV l)[j * 3 + 1]? = some (.int .i64 l[j].2.1) ∧ (tkV l)[j * 3 + 2]? = some (.int .i64 l[j].2.2)
 | [], j, h => by simp at h
 | r :: t, 0, h => by simp [tkV]
 | r :: t, j + 1, h => by
  have := tkV_at t j (by simpa using h)
  rw [show (j + 1) * 3 = j * 3 + 1 + 1 + 1 by omega, show j * 3 + 1 + 1 + 1 + 2 = j * 3 + 2 + 1 + 1 + 1 by omega]
  simpa [tkV] using this
theorem tkV_one : ∀ l : List Tk3, ∀ v ∈ tkV l, v.oneCell' = true
 | [], v, h => by cases h
 | r :: t, v, h => by
  rcases List.mem_cons.1 h with rfl | h
  · rfl
  ·
   skip
   rcases List.mem_cons.1 h with rfl | h
   · rfl
   ·
    skip
    rcases List.mem_cons.1 h with rfl | h
    · rfl
    · exact tkV_one t v h
theorem infoY : (Tryz.prog.info? 64).map (fun i => (i.zero, i.size, i.bytes)) = some (some (.agg #[.int .i64 0, .int .i64 0, .int .i64 0]), 3, 24) := by kernel_rfl
theorem boxY_cells {w : World} {k : Nat} {t : TypeId} {x y z : Value} (h : w.heap[k]? = some (.cells #[x, y, z] t)) :
  (w.cell? ⟨k, 0, none⟩ = some x ∧ w.cell? ⟨k, 1, none⟩ = some y ∧ w.cell? ⟨k, 2, none⟩ = some z) ∧ w.frozen? ⟨k, 0, none⟩ = false ∧ w.frozen? ⟨k, 1, none⟩ = false ∧ w.frozen? ⟨k, 2, none⟩ = false := by
 refine ⟨⟨?_, ?_, ?_⟩, ?_, ?_, ?_⟩ <;> simp [World.cell?, World.frozen?, h]
def RdY (w : World) (a : Option Addr) (l : List Tk3) : Prop := 0 < l.length → ∃ g off, a = some ⟨g, off, none⟩ ∧ ∀ j (h : j < l.length), w.cell? ⟨g, off + j * 3, none⟩ = some (.int .i64 l[j].1) ∧ w.cell? ⟨g, off + j * 3 + 1, none⟩ = some (.int .i64 l[j].2.1) ∧ w.cell? ⟨g, off + j * 3 + 2, none⟩ = some (.int .i64 l[j].2.2)
theorem RdY.keep {w w' : World} {a : Option Addr} {l : List Tk3} {B : Nat} (h : RdY w a l) (hb : Below B w w') (hB : w.heap.size ≤ B) : RdY w' a l := fun h0 => by
 obtain ⟨g, off, ha, hc⟩ := h h0
 refine ⟨g, off, ha, fun j hj => ?_⟩
 obtain ⟨h0, h1, h2⟩ := hc j hj
 have hlt := Nat.lt_of_lt_of_le (World.block_lt_of_cell? w ⟨g, off + j * 3, none⟩ h0) hB
 exact ⟨(hb.cell (p := ⟨g, off + j * 3, none⟩) hlt).trans h0, (hb.cell (p := ⟨g, off + j * 3 + 1, none⟩) hlt).trans h1, (hb.cell (p := ⟨g, off + j * 3 + 2, none⟩) hlt).trans h2⟩
theorem RdY.on {w w' : World} {a : Option Addr} {l : List Tk3} (h : RdY w a l) (hb : Below w.heap.size w w') : RdY w' a l := h.keep hb (Nat.le_refl _)
def OwnY (w : World) (B : Nat) (v : Value) (n : Nat) (l : List Tk3) : Prop := w.ownsRow B 64 3 v n (tkV l)
theorem OwnY.len {w : World} {B n : Nat} {v : Value} {l : List Tk3} (h : OwnY w B v n l) : l.length = n := by
 have := h.1; rw [tkV_len] at this; omega
theorem OwnY.rd {w : World} {B n c : Nat} {a : Option Addr} {l : List Tk3} (h : OwnY w B (.slice a n c) n l) : RdY w a l := fun h0 => by
 have hl := h.len
 rcases h.2 with ⟨hv, e⟩ | ⟨g, cap, cur, hv, _⟩
 · omega
 ·
  cases hv
  refine ⟨g, 0, rfl, fun j hj => ?_⟩
  obtain ⟨h0, h1, h2⟩ := tkV_at l j hj
  refine ⟨?_, ?_, ?_⟩
  · rw [Nat.zero_add, h.cellAt (j * 3) (by omega)]; exact h0
  · rw [Nat.zero_add, h.cellAt (j * 3 + 1) (by omega)]; exact h1
  · rw [Nat.zero_add, h.cellAt (j * 3 + 2) (by omega)]; exact h2
theorem tkV_set : ∀ (l : List Tk3) (j : Nat) (x y z : Int), (((tkV l).set (j * 3) (.int .i64 x)).set (j * 3 + 1) (.int .i64 y)).set (j * 3 + 2) (.int .i64 z) = tkV (l.set j (x, y, z))
 | [], j, x, y, z => by simp [tkV]
 | r :: l, 0, x, y, z => by simp [tkV]
 | r :: l, j + 1, x, y, z => by
  have := tkV_set l j x y z
  rw [show (j + 1) * 3 = j * 3 + 1 + 1 + 1 by omega, show j * 3 + 1 + 1 + 1 + 2 = j * 3 + 2 + 1 + 1 + 1 by omega]
  simpa [tkV] using this
def RowY (w : World) (g : Nat) (l : List Tk3) : Prop := w.heap[g]? = some (.cells (tkV l).toArray 64 (0, 0))
theorem RowY.lt {w : World} {g : Nat} {l : List Tk3} (h : RowY w g l) : g < w.heap.size := row_lt h
theorem RowY.on {w w' : World} {g : Nat} {l : List Tk3} (h : RowY w g l) (hb : Below w.heap.size w w') : RowY w' g l := row_after h hb (row_lt h)
theorem RowY.cell {w : World} {g : Nat} {l : List Tk3} (h : RowY w g l) (j : Nat) (hj : j < l.length) : w.cell? ⟨g, j * 3, none⟩ = some (.int .i64 l[j].1) ∧ w.cell? ⟨g, j * 3 + 1, none⟩ = some (.int .i64 l[j].2.1) ∧ w.cell? ⟨g, j * 3 + 2, none⟩ = some (.int .i64 l[j].2.2) := by
 have := tkV_at l j hj
 rw [cell_of_row w g (j * 3) _ _ (0, 0) h, cell_of_row w g (j * 3 + 1) _ _ (0, 0) h, cell_of_row w g (j * 3 + 2) _ _ (0, 0) h]
 simpa using this
theorem RowY.free {w : World} {g : Nat} {l : List Tk3} (h : RowY w g l) (j : Nat) : w.frozen? ⟨g, j, none⟩ = false := frozen_of_row w g j _ _ h
theorem RowY.rd {w : World} {g : Nat} {l : List Tk3} (h : RowY w g l) : RdY w (some ⟨g, 0, none⟩) l := fun _ => ⟨g, 0, rfl, fun j hj => by rw [Nat.zero_add]; exact h.cell j hj⟩
theorem RowY.set {w : World} {g : Nat} {l : List Tk3} (h : RowY w g l) (j : Nat) (x y z : Int) : RowY (((w.setCell ⟨g, j * 3, none⟩ (.int .i64 x)).setCell ⟨g, j * 3 + 1, none⟩ (.int .i64 y)).setCell ⟨g, j * 3 + 2, none⟩ (.int .i64 z)) g (l.set j (x, y, z)) := by
 unfold RowY at h ⊢
 have h1 := heap_setCell_same w g (j * 3) _ _ (.int .i64 x) h
 have h2 := heap_setCell_same _ g (j * 3 + 1) _ _ (.int .i64 y) h1
 rw [heap_setCell_same _ g (j * 3 + 2) _ _ (.int .i64 z) h2, ← tkV_set]
 simp
theorem tkV_zero (n : Nat) : madeCells #[.int .i64 0, .int .i64 0, .int .i64 0] (n * 3) = (tkV (List.replicate n (0, 0, 0))).toArray := by
 apply Array.ext
 · simp [madeCells, tkV_len]
 ·
  intro j h1 h2
  have hj : j < n * 3 := by simpa [madeCells] using h1
  have h0 : j / 3 < n := by omega
  have hr := tkV_at (List.replicate n ((0, 0, 0) : Tk3)) (j / 3) (by simpa using h0)
  have h3 : j % 3 = 0 ∨ j % 3 = 1 ∨ j % 3 = 2 := by omega
  have hz : (tkV (List.replicate n ((0, 0, 0) : Tk3)))[j]? = some (.int .i64 0) := by
   rcases h3 with e | e | e
   ·
    have := hr.1
    rw [show j / 3 * 3 = j by omega] at this
    simpa using this
   ·
    have := hr.2.1
    rw [show j / 3 * 3 + 1 = j by omega] at this
    simpa using this
   ·
    have := hr.2.2
    rw [show j / 3 * 3 + 2 = j by omega] at this
    simpa using this
  have hl : (madeCells #[Value.int .i64 0, .int .i64 0, .int .i64 0] (n * 3))[j] = .int .i64 0 := by
   rcases h3 with e | e | e <;> simp [madeCells, e]
  rw [hl]
  have hj2 : j < (tkV (List.replicate n ((0, 0, 0) : Tk3))).length := by simpa using h2
  rw [List.getElem?_eq_getElem hj2] at hz
  simpa using (Option.some.inj hz).symm
theorem makeY (n : Nat) (hn : n ≤ 1048576) (w : World) : (Instr.makeSlice 35 (.int .i64 n) (.int .i64 n)).run Tryz.prog w = .ok (.slice (some ⟨w.heap.size, 0, none⟩) n n) (w.alloc (.cells (tkV (List.replicate n (0, 0, 0))).toArray 64)) := by
 obtain ⟨i0, hi, hz0, hz1, hz2⟩ := info_parts infoY
 have h := run_make (P := Tryz.prog) w 35 64 i0 _ Tryz.underlying35 hi hz0 .i64 .i64 n n (by omega) (Int.le_refl _) (by rw [hz2]; omega) (by omega)
 rw [hz1, Int.toNat_natCast, show (Value.agg #[.int .i64 0, .int .i64 0, .int .i64 0]).cells = #[.int .i64 0, .int .i64 0, .int .i64 0] from rfl, tkV_zero] at h
 exact h
abbrev In3 := Int × ByteArray × ByteArray
def inV : List In3 → List Value
 | [] => []
 | r :: t => .int .i64 r.1 :: .string r.2.1 :: .string r.2.2 :: inV t
theorem inV_len : ∀ l : List In3, (inV l).length = l.length * 3
 | [] => rfl
 | r :: t => by simp [inV, inV_len t]; omega
theorem inV_append : ∀ x y : List In3, inV (x ++ y) = inV x ++ inV y
 | [], y => rfl
 | r :: t, y => by simp [inV, inV_append t y]
theorem inV_at : ∀ (l : List In3) (j : Nat) (h : j < l.length), (inV l)[j * 3]? = some (.int .i64 l[j].1) ∧ (inV l)[j * 3 + 1]? = some (.string l[j].2.1) ∧ (inV l)[j * 3 + 2]? = some (.string l[j].2.2)
 | [], j, h => by simp at h
 | r :: t, 0, h => by simp [inV]
 | r :: t, j + 1, h => by
  have := inV_at t j (by simpa using h)
  rw [show (j + 1) * 3 = j * 3 + 1 + 1 + 1 by omega, show j * 3 + 1 + 1 + 1 + 2 = j * 3 + 2 + 1 + 1 + 1 by omega]
  simpa [inV] using this
theorem inV_one : ∀ l : List In3, ∀ v ∈ inV l, v.oneCell' = true
 | [], v, h => by cases h
 | r :: t, v, h => by
  rcases List.mem_cons.1 h with rfl | h
  · rfl
  ·
   skip
   rcases List.mem_cons.1 h with rfl | h
   · rfl
   ·
    skip
    rcases List.mem_cons.1 h with rfl | h
    · rfl
    · exact inV_one t v h
theorem infoZ : (Tryz.prog.info? 46).map (fun i => (i.zero, i.size, i.bytes)) = some (some (.agg #[.int .i64 0, .string ⟨#[]⟩, .string ⟨#[]⟩]), 3, 40) := by kernel_rfl
def RdZ (w : World) (a : Option Addr) (l : List In3) : Prop := 0 < l.length → ∃ g off, a = some ⟨g, off, none⟩ ∧ ∀ j (h : j < l.length), w.cell? ⟨g, off + j * 3, none⟩ = some (.int .i64 l[j].1) ∧ w.cell? ⟨g, off + j * 3 + 1, none⟩ = some (.string l[j].2.1) ∧ w.cell? ⟨g, off + j * 3 + 2, none⟩ = some (.string l[j].2.2)
theorem RdZ.keep {w w' : World} {a : Option Addr} {l : List In3} {B : Nat} (h : RdZ w a l) (hb : Below B w w') (hB : w.heap.size ≤ B) : RdZ w' a l := fun h0 => by
 obtain ⟨g, off, ha, hc⟩ := h h0
 refine ⟨g, off, ha, fun j hj => ?_⟩
 obtain ⟨h0, h1, h2⟩ := hc j hj
 have hlt := Nat.lt_of_lt_of_le (World.block_lt_of_cell? w ⟨g, off + j * 3, none⟩ h0) hB
 exact ⟨(hb.cell (p := ⟨g, off + j * 3, none⟩) hlt).trans h0, (hb.cell (p := ⟨g, off + j * 3 + 1, none⟩) hlt).trans h1, (hb.cell (p := ⟨g, off + j * 3 + 2, none⟩) hlt).trans h2⟩
theorem RdZ.on {w w' : World} {a : Option Addr} {l : List In3} (h : RdZ w a l) (hb : Below w.heap.size w w') : RdZ w' a l := h.keep hb (Nat.le_refl _)
def OwnZ (w : World) (B : Nat) (v : Value) (n : Nat) (l : List In3) : Prop := w.ownsRow B 46 3 v n (inV l)
theorem OwnZ.len {w : World} {B n : Nat} {v : Value} {l : List In3} (h : OwnZ w B v n l) : l.length = n := by
 have := h.1; rw [inV_len] at this; omega
theorem OwnZ.rd {w : World} {B n c : Nat} {a : Option Addr} {l : List In3} (h : OwnZ w B (.slice a n c) n l) : RdZ w a l := fun h0 => by
 have hl := h.len
 rcases h.2 with ⟨hv, e⟩ | ⟨g, cap, cur, hv, _⟩
 · omega
 ·
  cases hv
  refine ⟨g, 0, rfl, fun j hj => ?_⟩
  obtain ⟨h0, h1, h2⟩ := inV_at l j hj
  refine ⟨?_, ?_, ?_⟩
  · rw [Nat.zero_add, h.cellAt (j * 3) (by omega)]; exact h0
  · rw [Nat.zero_add, h.cellAt (j * 3 + 1) (by omega)]; exact h1
  · rw [Nat.zero_add, h.cellAt (j * 3 + 2) (by omega)]; exact h2
theorem inV_set : ∀ (l : List In3) (j : Nat) (x : Int) (y z : ByteArray), (((inV l).set (j * 3) (.int .i64 x)).set (j * 3 + 1) (.string y)).set (j * 3 + 2) (.string z) = inV (l.set j (x, y, z))
 | [], j, x, y, z => by simp [inV]
 | r :: l, 0, x, y, z => by simp [inV]
 | r :: l, j + 1, x, y, z => by
  have := inV_set l j x y z
  rw [show (j + 1) * 3 = j * 3 + 1 + 1 + 1 by omega, show j * 3 + 1 + 1 + 1 + 2 = j * 3 + 2 + 1 + 1 + 1 by omega]
  simpa [inV] using this
def RowZ (w : World) (g : Nat) (l : List In3) : Prop := w.heap[g]? = some (.cells (inV l).toArray 46 (0, 0))
theorem RowZ.lt {w : World} {g : Nat} {l : List In3} (h : RowZ w g l) : g < w.heap.size := row_lt h
theorem RowZ.on {w w' : World} {g : Nat} {l : List In3} (h : RowZ w g l) (hb : Below w.heap.size w w') : RowZ w' g l := row_after h hb (row_lt h)
theorem RowZ.cell {w : World} {g : Nat} {l : List In3} (h : RowZ w g l) (j : Nat) (hj : j < l.length) : w.cell? ⟨g, j * 3, none⟩ = some (.int .i64 l[j].1) ∧ w.cell? ⟨g, j * 3 + 1, none⟩ = some (.string l[j].2.1) ∧ w.cell? ⟨g, j * 3 + 2, none⟩ = some (.string l[j].2.2) := by
 have := inV_at l j hj
 rw [cell_of_row w g (j * 3) _ _ (0, 0) h, cell_of_row w g (j * 3 + 1) _ _ (0, 0) h, cell_of_row w g (j * 3 + 2) _ _ (0, 0) h]
 simpa using this
theorem RowZ.free {w : World} {g : Nat} {l : List In3} (h : RowZ w g l) (j : Nat) : w.frozen? ⟨g, j, none⟩ = false := frozen_of_row w g j _ _ h
theorem RowZ.rd {w : World} {g : Nat} {l : List In3} (h : RowZ w g l) : RdZ w (some ⟨g, 0, none⟩) l := fun _ => ⟨g, 0, rfl, fun j hj => by rw [Nat.zero_add]; exact h.cell j hj⟩
theorem RowZ.set {w : World} {g : Nat} {l : List In3} (h : RowZ w g l) (j : Nat) (x : Int) (y z : ByteArray) : RowZ (((w.setCell ⟨g, j * 3, none⟩ (.int .i64 x)).setCell ⟨g, j * 3 + 1, none⟩ (.string y)).setCell ⟨g, j * 3 + 2, none⟩ (.string z)) g (l.set j (x, y, z)) := by
 unfold RowZ at h ⊢
 have h1 := heap_setCell_same w g (j * 3) _ _ (.int .i64 x) h
 have h2 := heap_setCell_same _ g (j * 3 + 1) _ _ (.string y) h1
 rw [heap_setCell_same _ g (j * 3 + 2) _ _ (.string z) h2, ← inV_set]
 simp
end Go.Proofs.YtfhhnelffldggaaGreatDoor
namespace Go.Proofs.YtfhhnelffldggaaGreatDoor
open Go.RowKit Go.PlainAid
set_option linter.unusedVariables false
set_option linter.unusedSimpArgs false
theorem giveS_no (s n d r l b g k a : Int) (hp : ¬ Pm.ok ⟨s, n, d, r, l, b, g, k⟩) (w : World) : Calls Tryz.prog 56 #[PV s n d r l b g k, .int .i64 a] w fun e w' => e = .returned (Pm.give ⟨s, n, d, r, l, b, g, k⟩ a).V ∧ Below w.heap.size w w' := by
 have HT : Hid (Pm.give ⟨s, n, d, r, l, b, g, k⟩ a = ⟨s, n, d, r, l, b, g, k⟩) := by show _ = _; unfold Pm.give; rw [ok_no hp]; simp
 have KP : Hid (∀ w, Calls Tryz.prog 94 #[PV s n d r l b g k] w fun e w' => e = .returned (.bool false) ∧ Below w.heap.size w w') := fun w => pumpokS ⟨s, n, d, r, l, b, g, k⟩ false ⟨fun h => (by cases h), fun h => absurd h hp⟩ w
 clear hp
 have HB0 : Hid (Below w.heap.size w ((w.alloc (PB s n d r l b g k)).alloc (PB 0 0 0 0 0 0 0 0))) := bel_on (Nat.le_refl _) (alP _ _) (alP _ _)
 have HP0 : Hid (((w.alloc (PB s n d r l b g k)).alloc (PB 0 0 0 0 0 0 0 0)).heap[w.heap.size]? = some (PB s n d r l b g k)) := row_on (heap_new w _) (alP _ _)
 have HZ0 : Hid (((w.alloc (PB s n d r l b g k)).alloc (PB 0 0 0 0 0 0 0 0)).heap[w.heap.size + 1]? = some (PB 0 0 0 0 0 0 0 0)) := al_at (w.alloc (PB s n d r l b g k)) _ (by simp)
 have p0 := box8_cells HP0.out
 go_enter Tryz.func56, Tryz.ntmps56
 go_wp2_with fail
 refine Calls.mono (KP.out _) ?_
 rintro e w1 ⟨rfl, hb1⟩
 have HB1 := bq HB0 hb1
 have HP1 := rq HP0 hb1
 have HZ1 := rq HZ0 hb1
 have p1 := box8_cells HP1.out
 clear hb1 HB0 HP0 HZ0 p0
 go_upto_region 2 with fail
 go_wp2_with (refine listStoreP rfl rfl _ _ _ rfl rfl (w.heap.size + 1) (s) (n) (d) (r) (l) (b) (g) (k) rfl rfl HZ1.out ?_)
 intro w99 hr9 ho9 hs9 hB9
 have HF := hq (hB9 _ _ (Nat.le_succ _) HB1.out)
 obtain ⟨⟨q0, q1, q2, q3, q4, q5, q6, q7⟩, _⟩ := box8_cells hr9
 clear ho9 hs9 hB9 hr9
 go_wp2
 refine bodyPost_ret (v := PV s n d r l b g k) (by simp only [results, Tryz.results56]; simp [go_sem, q0, q1, q2, q3, q4, q5, q6, q7]) rfl ⟨by rw [HT.out]; rfl, HF.out⟩
theorem giveS_0 (n d r l b g k a : Int) (hp : Pm.ok ⟨0, n, d, r, l, b, g, k⟩) (w : World) : Calls Tryz.prog 56 #[PV 0 n d r l b g k, .int .i64 a] w fun e w' => e = .returned (Pm.give ⟨0, n, d, r, l, b, g, k⟩ a).V ∧ Below w.heap.size w w' := by
 have HT : Hid (Pm.give ⟨0, n, d, r, l, b, g, k⟩ a = ⟨0, n, d, r, l, b, g, k⟩) := by show _ = _; unfold Pm.give; simp
 have KP : Hid (∀ w, Calls Tryz.prog 94 #[PV 0 n d r l b g k] w fun e w' => e = .returned (.bool true) ∧ Below w.heap.size w w') := fun w => pumpokS ⟨0, n, d, r, l, b, g, k⟩ true ⟨fun _ => hp, fun _ => rfl⟩ w
 clear hp
 have HB0 : Hid (Below w.heap.size w ((w.alloc (PB 0 n d r l b g k)).alloc (PB 0 0 0 0 0 0 0 0))) := bel_on (Nat.le_refl _) (alP _ _) (alP _ _)
 have HP0 : Hid (((w.alloc (PB 0 n d r l b g k)).alloc (PB 0 0 0 0 0 0 0 0)).heap[w.heap.size]? = some (PB 0 n d r l b g k)) := row_on (heap_new w _) (alP _ _)
 have HZ0 : Hid (((w.alloc (PB 0 n d r l b g k)).alloc (PB 0 0 0 0 0 0 0 0)).heap[w.heap.size + 1]? = some (PB 0 0 0 0 0 0 0 0)) := al_at (w.alloc (PB 0 n d r l b g k)) _ (by simp)
 have p0 := box8_cells HP0.out
 go_enter Tryz.func56, Tryz.ntmps56
 go_wp2_with fail
 refine Calls.mono (KP.out _) ?_
 rintro e w1 ⟨rfl, hb1⟩
 have HB1 := bq HB0 hb1
 have HP1 := rq HP0 hb1
 have HZ1 := rq HZ0 hb1
 have p1 := box8_cells HP1.out
 clear hb1 HB0 HP0 HZ0 p0
 go_upto_region 2 with fail
 go_wp2_with (refine listStoreP rfl rfl _ _ _ rfl rfl (w.heap.size + 1) (0) (n) (d) (r) (l) (b) (g) (k) rfl rfl HZ1.out ?_)
 intro w99 hr9 ho9 hs9 hB9
 have HF := hq (hB9 _ _ (Nat.le_succ _) HB1.out)
 obtain ⟨⟨q0, q1, q2, q3, q4, q5, q6, q7⟩, _⟩ := box8_cells hr9
 clear ho9 hs9 hB9 hr9
 go_wp2
 refine bodyPost_ret (v := PV 0 n d r l b g k) (by simp only [results, Tryz.results56]; simp [go_sem, q0, q1, q2, q3, q4, q5, q6, q7]) rfl ⟨by rw [HT.out]; rfl, HF.out⟩
theorem giveS_3 (n d r l b g k a : Int) (hp : Pm.ok ⟨3, n, d, r, l, b, g, k⟩) (w : World) : Calls Tryz.prog 56 #[PV 3 n d r l b g k, .int .i64 a] w fun e w' => e = .returned (Pm.give ⟨3, n, d, r, l, b, g, k⟩ a).V ∧ Below w.heap.size w w' := by
 have HT : Hid (Pm.give ⟨3, n, d, r, l, b, g, k⟩ a = ⟨3, n, d, r, l, b, g, k⟩) := by show _ = _; unfold Pm.give; simp
 have KP : Hid (∀ w, Calls Tryz.prog 94 #[PV 3 n d r l b g k] w fun e w' => e = .returned (.bool true) ∧ Below w.heap.size w w') := fun w => pumpokS ⟨3, n, d, r, l, b, g, k⟩ true ⟨fun _ => hp, fun _ => rfl⟩ w
 clear hp
 have HB0 : Hid (Below w.heap.size w ((w.alloc (PB 3 n d r l b g k)).alloc (PB 0 0 0 0 0 0 0 0))) := bel_on (Nat.le_refl _) (alP _ _) (alP _ _)
 have HP0 : Hid (((w.alloc (PB 3 n d r l b g k)).alloc (PB 0 0 0 0 0 0 0 0)).heap[w.heap.size]? = some (PB 3 n d r l b g k)) := row_on (heap_new w _) (alP _ _)
 have HZ0 : Hid (((w.alloc (PB 3 n d r l b g k)).alloc (PB 0 0 0 0 0 0 0 0)).heap[w.heap.size + 1]? = some (PB 0 0 0 0 0 0 0 0)) := al_at (w.alloc (PB 3 n d r l b g k)) _ (by simp)
 have p0 := box8_cells HP0.out
 go_enter Tryz.func56, Tryz.ntmps56
 go_wp2_with fail
 refine Calls.mono (KP.out _) ?_
 rintro e w1 ⟨rfl, hb1⟩
 have HB1 := bq HB0 hb1
 have HP1 := rq HP0 hb1
 have HZ1 := rq HZ0 hb1
 have p1 := box8_cells HP1.out
 clear hb1 HB0 HP0 HZ0 p0
 go_upto_region 2 with fail
 go_wp2_with (refine listStoreP rfl rfl _ _ _ rfl rfl (w.heap.size + 1) (3) (n) (d) (r) (l) (b) (g) (k) rfl rfl HZ1.out ?_)
 intro w99 hr9 ho9 hs9 hB9
 have HF := hq (hB9 _ _ (Nat.le_succ _) HB1.out)
 obtain ⟨⟨q0, q1, q2, q3, q4, q5, q6, q7⟩, _⟩ := box8_cells hr9
 clear ho9 hs9 hB9 hr9
 go_wp2
 refine bodyPost_ret (v := PV 3 n d r l b g k) (by simp only [results, Tryz.results56]; simp [go_sem, q0, q1, q2, q3, q4, q5, q6, q7]) rfl ⟨by rw [HT.out]; rfl, HF.out⟩
theorem aqSpGv2s {p : Prop} (h : p) : Hid p := h
theorem giveS_1n (n d r l b g k a m W q r' y : Int) (KP : Hid (∀ w, Calls Tryz.prog 94 #[PV 1 n d r l b g k] w fun e w' => e = .returned (.bool true) ∧ Below w.heap.size w w')) (KW : Hid (∀ w, Calls Tryz.prog 55 #[PV 1 n d r l b g k] w fun e w' => e = .returned (.int .i64 W) ∧ Below w.heap.size w w')) (KR : Hid (∀ w, Calls Tryz.prog 110 #[.agg #[.int .i64 n, .int .i64 d, .int .i64 r]] w fun e w' => e = .returned (.tuple #[.agg #[.int .i64 n, .int .i64 d, .int .i64 r'], .int .i64 y]) ∧ Below w.heap.size w w')) (hm : Hid (min a W = m)) (hq : Hid (min b 3 = q)) (hc : Hid (min 0 q = 0)) (hg2 : Hid (min g 1000000000000 = g)) (hneg : m < 0) (eb : IntKind.i64.wrap b = b) (eb' : wrap64 b = b) (eg : IntKind.i64.wrap g = g) (eg' : wrap64 g = g) (el : IntKind.i64.wrap l = l) (el' : wrap64 l = l) (hL : ¬ l = 0) (HT : Hid (Pm.give ⟨1, n, d, r, l, b, g, k⟩ a = ⟨1, n, d, r', l, b, g, k⟩)) (w : World) : Calls Tryz.prog 56 #[PV 1 n d r l b g k, .int .i64 a] w fun e w' => e = .returned (Pm.give ⟨1, n, d, r, l, b, g, k⟩ a).V ∧ Below w.heap.size w w' := by
 have qL : (l == 0) = false := by simpa using hL
 have HB0 : Hid (Below w.heap.size w ((w.alloc (PB 1 n d r l b g k)).alloc (PB 0 0 0 0 0 0 0 0))) := bel_on (Nat.le_refl _) (alP _ _) (alP _ _)
 have HP0 : Hid (((w.alloc (PB 1 n d r l b g k)).alloc (PB 0 0 0 0 0 0 0 0)).heap[w.heap.size]? = some (PB 1 n d r l b g k)) := row_on (heap_new w _) (alP _ _)
 have HZ0 : Hid (((w.alloc (PB 1 n d r l b g k)).alloc (PB 0 0 0 0 0 0 0 0)).heap[w.heap.size + 1]? = some (PB 0 0 0 0 0 0 0 0)) := al_at (w.alloc (PB 1 n d r l b g k)) _ (by simp)
 have p0 := box8_cells HP0.out
 go_enter Tryz.func56, Tryz.ntmps56
 go_wp2_with fail
 refine Calls.mono (KP.out _) ?_
 rintro e w1 ⟨rfl, hb1⟩
 have HB1 := bq HB0 hb1
 have HP1 := rq HP0 hb1
 have HZ1 := rq HZ0 hb1
 have p1 := box8_cells HP1.out
 clear hb1 HB0 HP0 HZ0 p0
 go_wp2_with fail
 refine Calls.mono (KW.out _) ?_
 rintro e w2 ⟨rfl, hb2⟩
 have HB2 := bq HB1 hb2
 have HP2 := rq HP1 hb2
 have HZ2 := rq HZ1 hb2
 have p2 := box8_cells HP2.out
 have hl2 := row_lt HZ2.out
 clear hb2 HB1 HP1 HZ1 p1 KP KW
 go_wp2_with fail
 refine (lessS a W m hm.out _).mono ?_
 rintro e wz ⟨rfl, hwz⟩
 subst hwz
 have HN2 : Hid ((wz.alloc (PB 0 0 0 0 0 0 0 0)).heap[wz.heap.size]? = some (PB 0 0 0 0 0 0 0 0)) := heap_new wz _
 have HPa : Hid ((wz.alloc (PB 0 0 0 0 0 0 0 0)).heap[w.heap.size]? = some (PB 1 n d r l b g k)) := row_on HP2.out (alP _ _)
 have HZa : Hid ((wz.alloc (PB 0 0 0 0 0 0 0 0)).heap[w.heap.size + 1]? = some (PB 0 0 0 0 0 0 0 0)) := row_on HZ2.out (alP _ _)
 have HBa : Hid (Below w.heap.size w (wz.alloc (PB 0 0 0 0 0 0 0 0))) := bel_on (Nat.le_refl _) HB2.out (alP _ _)
 go_upto_region 6 with fail
 go_wp2_with (refine listStoreP rfl rfl _ _ _ rfl rfl wz.heap.size (1) (n) (d) (r) (l) (b) (g) (k) rfl rfl HN2.out ?_)
 intro w3 hr3 ho3 hs3 hB3
 obtain ⟨Q, hQ⟩ : ∃ Q, wz.heap.size = Q := ⟨_, rfl⟩
 rw [hQ] at hr3 ho3 hB3 hl2
 have hl : w.heap.size ≤ Q := by omega
 have HB3 : Hid (Below w.heap.size w w3) := hB3 _ _ hl HBa.out
 have HN3 := aqSpGv2s hr3
 have HP3 := aqSpGv2s ((ho3 _ (by omega)).trans HPa.out)
 have HZ3 := aqSpGv2s ((ho3 _ (by omega)).trans HZa.out)
 have p3 := box8_cells HP3.out
 have n3 := box8_cells HN3.out
 rw [hQ]
 clear hr3 ho3 hs3 hB3 HN2 HPa HZa HBa HP2 HZ2 HB2 p2 hQ
 go_wp2_with fail
 refine Calls.mono (KR.out _) ?_
 rintro e w4 ⟨rfl, hb4⟩
 have HB4 := bq HB3 hb4
 have HN4 := rq HN3 hb4
 have HP4 := rq HP3 hb4
 have HZ4 := rq HZ3 hb4
 have p4 := box8_cells HP4.out
 have n4 := box8_cells HN4.out
 clear hb4 HB3 HN3 HP3 HZ3 p3 n3 KR
 go_wp2_with (refine listStoreR rfl rfl _ _ _ rfl rfl Q (n) (d) (r') rfl rfl HN4.out ?_)
 intro w5 hr ho hs hB
 have HB5 : Hid (Below w.heap.size w w5) := hB _ _ hl HB4.out
 have HN5 := aqSpGv2s hr
 have HP5 := aqSpGv2s ((ho _ (by omega)).trans HP4.out)
 have HZ5 := aqSpGv2s ((ho _ (by omega)).trans HZ4.out)
 have p5 := box8_cells HP5.out
 have n5 := box8_cells HN5.out
 clear hr ho hs hB HB4 HN4 HP4 HZ4 p4 n4
 go_wp2_with fail
 refine (lessS b 3 q hq.out _).mono ?_
 rintro e wz ⟨rfl, hwz⟩
 subst hwz
 go_wp2_with fail
 refine (lessS 0 q 0 hc.out _).mono ?_
 rintro e wz ⟨rfl, hwz⟩
 subst hwz
 go_upto_region 9 with fail
 go_wp2_with (refine listStoreC rfl rfl _ _ _ rfl rfl Q 5 (b) rfl rfl HN5.out (by simp) ?_)
 intro w6 hr ho hs hB
 have HB6 : Hid (Below w.heap.size w w6) := hB _ _ hl HB5.out
 have HN6 := aqSpGv2s hr
 have HP6 := aqSpGv2s ((ho _ (by omega)).trans HP5.out)
 have HZ6 := aqSpGv2s ((ho _ (by omega)).trans HZ5.out)
 have p6 := box8_cells HP6.out
 have n6 := box8_cells HN6.out
 clear hr ho hs hB HB5 HN5 HP5 HZ5 p5 n5
 go_upto_region 11 with fail
 go_wp2_with (refine listStoreC rfl rfl _ _ _ rfl rfl Q 4 (l) rfl rfl HN6.out (by simp) ?_)
 intro w7 hr ho hs hB
 have HB7 : Hid (Below w.heap.size w w7) := hB _ _ hl HB6.out
 have HN7 := aqSpGv2s hr
 have HP7 := aqSpGv2s ((ho _ (by omega)).trans HP6.out)
 have HZ7 := aqSpGv2s ((ho _ (by omega)).trans HZ6.out)
 have p7 := box8_cells HP7.out
 have n7 := box8_cells HN7.out
 clear hr ho hs hB HB6 HN6 HP6 HZ6 p6 n6
 go_wp2_with fail
 refine (lessS g 1000000000000 g hg2.out _).mono ?_
 rintro e wz ⟨rfl, hwz⟩
 subst hwz
 go_wp2_with (refine listStoreC rfl rfl _ _ _ rfl rfl Q 6 (g) rfl rfl HN7.out (by simp) ?_)
 intro w8 hr ho hs hB
 have HB8 : Hid (Below w.heap.size w w8) := hB _ _ hl HB7.out
 have HN8 := aqSpGv2s hr
 have HP8 := aqSpGv2s ((ho _ (by omega)).trans HP7.out)
 have HZ8 := aqSpGv2s ((ho _ (by omega)).trans HZ7.out)
 have p8 := box8_cells HP8.out
 have n8 := box8_cells HN8.out
 clear hr ho hs hB HB7 HN7 HP7 HZ7 p7 n7
 go_upto_region 16 with fail
 go_wp2_with (refine listStoreP rfl rfl _ _ _ rfl rfl (w.heap.size + 1) (1) (n) (d) (r') (l) (b) (g) (k) rfl rfl HZ8.out ?_)
 intro w99 hr9 ho9 hs9 hB9
 have HF := aqSpGv2s (hB9 _ _ (Nat.le_succ _) HB8.out)
 obtain ⟨⟨q0, q1, q2, q3, q4, q5, q6, q7⟩, _⟩ := box8_cells hr9
 clear ho9 hs9 hB9 hr9
 go_wp2
 refine bodyPost_ret (v := PV 1 n d r' l b g k) (by simp only [results, Tryz.results56]; simp [go_sem, q0, q1, q2, q3, q4, q5, q6, q7]) rfl ⟨by rw [HT.out]; rfl, HF.out⟩
end Go.Proofs.YtfhhnelffldggaaGreatDoor
namespace Go.Proofs.YtfhhnelffldggaaGreatDoor
open Go.ChangeShapes Go.WideShapes Go.ChangeAt Go.RowKit Go.PlainAid
set_option linter.unusedVariables false
theorem grown_setc {w W : World} {g i : Nat} (h : w.grownBy W (some g)) (u : Value) : w.grownBy (W.setCell ⟨g, i, none⟩ u) (some g) := by
 have hs : (W.setCell ⟨g, i, none⟩ u).heap.size = W.heap.size := by simp
 exact ⟨h.os, h.tape, h.output, by rw [hs]; exact h.size, fun m hm hne => (Below.heap_setCell _ _ _ _ (show m ≠ g from fun e => hne (by rw [e]))).trans (h.block m hm hne)⟩
end Go.Proofs.YtfhhnelffldggaaGreatDoor
