/-
  Lists of Ports: in memory, read, copied, compared, sized.
-/
import Derived.Test.YtfdhcchakoldpaaRul9
namespace Go.Proofs.Ytfdhcchakoldpaa
open Go.ChangeShapes Go.WideShapes Go.ChangeAt Go.RowKit Go.PlainAid
set_option linter.unusedVariables false

abbrev Prt := Int × Int × Int × Int × Int
def prtV : List Prt → List Value
  | [] => []
  | r :: t => .int .i64 r.1 :: .int .i64 r.2.1 :: .int .i64 r.2.2.1 :: .int .i64 r.2.2.2.1 :: .int .i64 r.2.2.2.2 :: prtV t
theorem prtV_len : ∀ l : List Prt, (prtV l).length = l.length * 5
  | [] => rfl
  | r :: t => by simp [prtV, prtV_len t]; omega
theorem prtV_append : ∀ x y : List Prt, prtV (x ++ y) = prtV x ++ prtV y
  | [], y => rfl
  | r :: t, y => by simp [prtV, prtV_append t y]
theorem prtV_at : ∀ (l : List Prt) (j : Nat) (h : j < l.length), (prtV l)[j * 5]? = some (.int .i64 l[j].1) ∧ (prtV l)[j * 5 + 1]? = some (.int .i64 l[j].2.1) ∧ (prtV l)[j * 5 + 2]? = some (.int .i64 l[j].2.2.1) ∧ (prtV l)[j * 5 + 3]? = some (.int .i64 l[j].2.2.2.1) ∧ (prtV l)[j * 5 + 4]? = some (.int .i64 l[j].2.2.2.2)
  | [], j, h => by simp at h
  | r :: t, 0, h => by simp [prtV]
  | r :: t, j + 1, h => by
    have := prtV_at t j (by simpa using h)
    rw [show (j + 1) * 5 = j * 5 + 1 + 1 + 1 + 1 + 1 by omega, show j * 5 + 1 + 1 + 1 + 1 + 1 + 2 = j * 5 + 2 + 1 + 1 + 1 + 1 + 1 by omega, show j * 5 + 1 + 1 + 1 + 1 + 1 + 3 = j * 5 + 3 + 1 + 1 + 1 + 1 + 1 by omega, show j * 5 + 1 + 1 + 1 + 1 + 1 + 4 = j * 5 + 4 + 1 + 1 + 1 + 1 + 1 by omega]
    simpa [prtV] using this
theorem prtV_one : ∀ l : List Prt, ∀ v ∈ prtV l, v.oneCell' = true
  | [], v, h => by cases h
  | r :: t, v, h => by
    rcases List.mem_cons.1 h with rfl | h
    · rfl
    · skip
      rcases List.mem_cons.1 h with rfl | h
      · rfl
      · skip
        rcases List.mem_cons.1 h with rfl | h
        · rfl
        · skip
          rcases List.mem_cons.1 h with rfl | h
          · rfl
          · skip
            rcases List.mem_cons.1 h with rfl | h
            · rfl
            · exact prtV_one t v h
theorem infoO : (Try.prog.info? 168).map (fun i => (i.zero, i.size, i.bytes)) = some (some (.agg #[.int .i64 0, .int .i64 0, .int .i64 0, .int .i64 0, .int .i64 0]), 5, 40) := by kernel_rfl
theorem boxO_cells {w : World} {k : Nat} {t : TypeId} {x y z u v : Value} (h : w.heap[k]? = some (.cells #[x, y, z, u, v] t)) :
    (w.cell? ⟨k, 0, none⟩ = some x ∧ w.cell? ⟨k, 1, none⟩ = some y ∧ w.cell? ⟨k, 2, none⟩ = some z ∧ w.cell? ⟨k, 3, none⟩ = some u ∧ w.cell? ⟨k, 4, none⟩ = some v) ∧ w.frozen? ⟨k, 0, none⟩ = false ∧ w.frozen? ⟨k, 1, none⟩ = false ∧ w.frozen? ⟨k, 2, none⟩ = false ∧ w.frozen? ⟨k, 3, none⟩ = false ∧ w.frozen? ⟨k, 4, none⟩ = false := by
  refine ⟨⟨?_, ?_, ?_, ?_, ?_⟩, ?_, ?_, ?_, ?_, ?_⟩ <;> simp [World.cell?, World.frozen?, h]
/-- a list that is read, wherever it lies -/
def RdO (w : World) (a : Option Addr) (l : List Prt) : Prop := 0 < l.length → ∃ g off, a = some ⟨g, off, none⟩ ∧ ∀ j (h : j < l.length), w.cell? ⟨g, off + j * 5, none⟩ = some (.int .i64 l[j].1) ∧ w.cell? ⟨g, off + j * 5 + 1, none⟩ = some (.int .i64 l[j].2.1) ∧ w.cell? ⟨g, off + j * 5 + 2, none⟩ = some (.int .i64 l[j].2.2.1) ∧ w.cell? ⟨g, off + j * 5 + 3, none⟩ = some (.int .i64 l[j].2.2.2.1) ∧ w.cell? ⟨g, off + j * 5 + 4, none⟩ = some (.int .i64 l[j].2.2.2.2)
theorem RdO.keep {w w' : World} {a : Option Addr} {l : List Prt} {B : Nat} (h : RdO w a l) (hb : Below B w w') (hB : w.heap.size ≤ B) : RdO w' a l := fun h0 => by
  obtain ⟨g, off, ha, hc⟩ := h h0
  refine ⟨g, off, ha, fun j hj => ?_⟩
  obtain ⟨h0, h1, h2, h3, h4⟩ := hc j hj
  have hlt := Nat.lt_of_lt_of_le (World.block_lt_of_cell? w ⟨g, off + j * 5, none⟩ h0) hB
  exact ⟨(hb.cell (p := ⟨g, off + j * 5, none⟩) hlt).trans h0, (hb.cell (p := ⟨g, off + j * 5 + 1, none⟩) hlt).trans h1, (hb.cell (p := ⟨g, off + j * 5 + 2, none⟩) hlt).trans h2, (hb.cell (p := ⟨g, off + j * 5 + 3, none⟩) hlt).trans h3, (hb.cell (p := ⟨g, off + j * 5 + 4, none⟩) hlt).trans h4⟩
theorem RdO.on {w w' : World} {a : Option Addr} {l : List Prt} (h : RdO w a l) (hb : Below w.heap.size w w') : RdO w' a l := h.keep hb (Nat.le_refl _)
/-- an owned list -/
def OwnO (w : World) (B : Nat) (v : Value) (n : Nat) (l : List Prt) : Prop := w.ownsRow B 168 5 v n (prtV l)
theorem OwnO.len {w : World} {B n : Nat} {v : Value} {l : List Prt} (h : OwnO w B v n l) : l.length = n := by
  have := h.1; rw [prtV_len] at this; omega
theorem OwnO.rd {w : World} {B n c : Nat} {a : Option Addr} {l : List Prt} (h : OwnO w B (.slice a n c) n l) : RdO w a l := fun h0 => by
  have hl := h.len
  rcases h.2 with ⟨hv, e⟩ | ⟨g, cap, cur, hv, _⟩
  · omega
  · cases hv
    refine ⟨g, 0, rfl, fun j hj => ?_⟩
    obtain ⟨h0, h1, h2, h3, h4⟩ := prtV_at l j hj
    refine ⟨?_, ?_, ?_, ?_, ?_⟩
    · rw [Nat.zero_add, h.cellAt (j * 5) (by omega)]; exact h0
    · rw [Nat.zero_add, h.cellAt (j * 5 + 1) (by omega)]; exact h1
    · rw [Nat.zero_add, h.cellAt (j * 5 + 2) (by omega)]; exact h2
    · rw [Nat.zero_add, h.cellAt (j * 5 + 3) (by omega)]; exact h3
    · rw [Nat.zero_add, h.cellAt (j * 5 + 4) (by omega)]; exact h4
theorem prtV_set : ∀ (l : List Prt) (j : Nat) (x y z u v : Int), (((((prtV l).set (j * 5) (.int .i64 x)).set (j * 5 + 1) (.int .i64 y)).set (j * 5 + 2) (.int .i64 z)).set (j * 5 + 3) (.int .i64 u)).set (j * 5 + 4) (.int .i64 v) = prtV (l.set j (x, y, z, u, v))
  | [], j, x, y, z, u, v => by simp [prtV]
  | r :: l, 0, x, y, z, u, v => by simp [prtV]
  | r :: l, j + 1, x, y, z, u, v => by
    have := prtV_set l j x y z u v
    rw [show (j + 1) * 5 = j * 5 + 1 + 1 + 1 + 1 + 1 by omega, show j * 5 + 1 + 1 + 1 + 1 + 1 + 2 = j * 5 + 2 + 1 + 1 + 1 + 1 + 1 by omega, show j * 5 + 1 + 1 + 1 + 1 + 1 + 3 = j * 5 + 3 + 1 + 1 + 1 + 1 + 1 by omega, show j * 5 + 1 + 1 + 1 + 1 + 1 + 4 = j * 5 + 4 + 1 + 1 + 1 + 1 + 1 by omega]
    simpa [prtV] using this
/-- a block that is such a list, whole -/
def RowO (w : World) (g : Nat) (l : List Prt) : Prop := w.heap[g]? = some (.cells (prtV l).toArray 168 (0, 0))
theorem RowO.lt {w : World} {g : Nat} {l : List Prt} (h : RowO w g l) : g < w.heap.size := row_lt h
theorem RowO.on {w w' : World} {g : Nat} {l : List Prt} (h : RowO w g l) (hb : Below w.heap.size w w') : RowO w' g l := row_after h hb (row_lt h)
theorem RowO.cell {w : World} {g : Nat} {l : List Prt} (h : RowO w g l) (j : Nat) (hj : j < l.length) : w.cell? ⟨g, j * 5, none⟩ = some (.int .i64 l[j].1) ∧ w.cell? ⟨g, j * 5 + 1, none⟩ = some (.int .i64 l[j].2.1) ∧ w.cell? ⟨g, j * 5 + 2, none⟩ = some (.int .i64 l[j].2.2.1) ∧ w.cell? ⟨g, j * 5 + 3, none⟩ = some (.int .i64 l[j].2.2.2.1) ∧ w.cell? ⟨g, j * 5 + 4, none⟩ = some (.int .i64 l[j].2.2.2.2) := by
  have := prtV_at l j hj
  rw [cell_of_row w g (j * 5) _ _ (0, 0) h, cell_of_row w g (j * 5 + 1) _ _ (0, 0) h, cell_of_row w g (j * 5 + 2) _ _ (0, 0) h, cell_of_row w g (j * 5 + 3) _ _ (0, 0) h, cell_of_row w g (j * 5 + 4) _ _ (0, 0) h]
  simpa using this
theorem RowO.free {w : World} {g : Nat} {l : List Prt} (h : RowO w g l) (j : Nat) : w.frozen? ⟨g, j, none⟩ = false := frozen_of_row w g j _ _ h
theorem RowO.rd {w : World} {g : Nat} {l : List Prt} (h : RowO w g l) : RdO w (some ⟨g, 0, none⟩) l := fun _ => ⟨g, 0, rfl, fun j hj => by rw [Nat.zero_add]; exact h.cell j hj⟩
theorem RowO.set {w : World} {g : Nat} {l : List Prt} (h : RowO w g l) (j : Nat) (x y z u v : Int) : RowO (((((w.setCell ⟨g, j * 5, none⟩ (.int .i64 x)).setCell ⟨g, j * 5 + 1, none⟩ (.int .i64 y)).setCell ⟨g, j * 5 + 2, none⟩ (.int .i64 z)).setCell ⟨g, j * 5 + 3, none⟩ (.int .i64 u)).setCell ⟨g, j * 5 + 4, none⟩ (.int .i64 v)) g (l.set j (x, y, z, u, v)) := by
  unfold RowO at h ⊢
  have h1 := heap_setCell_same w g (j * 5) _ _ (.int .i64 x) h
  have h2 := heap_setCell_same _ g (j * 5 + 1) _ _ (.int .i64 y) h1
  have h3 := heap_setCell_same _ g (j * 5 + 2) _ _ (.int .i64 z) h2
  have h4 := heap_setCell_same _ g (j * 5 + 3) _ _ (.int .i64 u) h3
  rw [heap_setCell_same _ g (j * 5 + 4) _ _ (.int .i64 v) h4, ← prtV_set]
  simp
theorem prtV_zero (n : Nat) : madeCells #[.int .i64 0, .int .i64 0, .int .i64 0, .int .i64 0, .int .i64 0] (n * 5) = (prtV (List.replicate n (0, 0, 0, 0, 0))).toArray := by
  apply Array.ext
  · simp [madeCells, prtV_len]
  · intro j h1 h2
    have hj : j < n * 5 := by simpa [madeCells] using h1
    have h0 : j / 5 < n := by omega
    have hr := prtV_at (List.replicate n ((0, 0, 0, 0, 0) : Prt)) (j / 5) (by simpa using h0)
    have h3 : j % 5 = 0 ∨ j % 5 = 1 ∨ j % 5 = 2 ∨ j % 5 = 3 ∨ j % 5 = 4 := by omega
    have hz : (prtV (List.replicate n ((0, 0, 0, 0, 0) : Prt)))[j]? = some (.int .i64 0) := by
      rcases h3 with e | e | e | e | e
      · have := hr.1
        rw [show j / 5 * 5 = j by omega] at this
        simpa using this
      · have := hr.2.1
        rw [show j / 5 * 5 + 1 = j by omega] at this
        simpa using this
      · have := hr.2.2.1
        rw [show j / 5 * 5 + 2 = j by omega] at this
        simpa using this
      · have := hr.2.2.2.1
        rw [show j / 5 * 5 + 3 = j by omega] at this
        simpa using this
      · have := hr.2.2.2.2
        rw [show j / 5 * 5 + 4 = j by omega] at this
        simpa using this
    have hl : (madeCells #[Value.int .i64 0, .int .i64 0, .int .i64 0, .int .i64 0, .int .i64 0] (n * 5))[j] = .int .i64 0 := by
      rcases h3 with e | e | e | e | e <;> simp [madeCells, e]
    rw [hl]
    have hj2 : j < (prtV (List.replicate n ((0, 0, 0, 0, 0) : Prt))).length := by simpa using h2
    rw [List.getElem?_eq_getElem hj2] at hz
    simpa using (Option.some.inj hz).symm
theorem makeO (n : Nat) (hn : n ≤ 1048576) (w : World) : (Instr.makeSlice 26 (.int .i64 n) (.int .i64 n)).run Try.prog w = .ok (.slice (some ⟨w.heap.size, 0, none⟩) n n) (w.alloc (.cells (prtV (List.replicate n (0, 0, 0, 0, 0))).toArray 168)) := by
  obtain ⟨i0, hi, hz0, hz1, hz2⟩ := info_parts infoO
  have h := run_make (P := Try.prog) w 26 168 i0 _ Try.underlying26 hi hz0 .i64 .i64 n n (by omega) (Int.le_refl _) (by rw [hz2]; omega) (by omega)
  rw [hz1, Int.toNat_natCast, show (Value.agg #[.int .i64 0, .int .i64 0, .int .i64 0, .int .i64 0, .int .i64 0]).cells = #[.int .i64 0, .int .i64 0, .int .i64 0, .int .i64 0, .int .i64 0] from rfl, prtV_zero] at h
  exact h
set_option maxRecDepth 100000 in
set_option maxHeartbeats 1000000 in
theorem toO (x y z u v : Int) (w : World) : Calls Try.prog 176 #[.agg #[.int .i64 x, .int .i64 y, .int .i64 z, .int .i64 u, .int .i64 v]] w fun e w' => e = .returned (.agg #[.int .i64 x, .int .i64 y, .int .i64 z, .int .i64 u, .int .i64 v]) ∧ Below w.heap.size w w' := by
  go_enter Try.func176, Try.ntmps176
  go_wp2
  refine bodyPost_ret (v := .agg #[.int .i64 x, .int .i64 y, .int .i64 z, .int .i64 u, .int .i64 v]) (by simp [results, Try.results176, go_sem]) rfl ⟨rfl, ?_⟩
  exact (((Below.refl _ _).alloc (Nat.le_refl _) _).alloc (by simp) _).alloc (by simp; omega) _
/-- the first j copied, the rest still 0 -/
def uptoO (l : List Prt) (n j : Nat) : List Prt := l.take j ++ List.replicate (n - j) (0, 0, 0, 0, 0)
theorem uptoO_zero (l : List Prt) (n : Nat) : uptoO l n 0 = List.replicate n (0, 0, 0, 0, 0) := by simp [uptoO]
theorem uptoO_len {l : List Prt} {n j : Nat} (hl : l.length = n) (h : j ≤ n) : (uptoO l n j).length = n := by simp [uptoO]; omega
theorem uptoO_all {l : List Prt} {n : Nat} (hl : l.length = n) : uptoO l n n = l := by simp [uptoO]; exact List.take_of_length_le (by omega)
theorem uptoO_set {l : List Prt} {n j : Nat} (hl : l.length = n) (h : j < n) (hj : j < l.length) : (uptoO l n j).set j l[j] = uptoO l n (j + 1) := by
  have h1 : (l.take j).length = j := by simp; omega
  unfold uptoO
  obtain ⟨m, hm⟩ : ∃ m, n - j = m + 1 := ⟨n - j - 1, by omega⟩
  rw [hm, show n - (j + 1) = m by omega, List.replicate_succ, List.set_append_right _ _ (by omega), h1, Nat.sub_self, List.set_cons_zero, List.take_succ_eq_append_getElem hj, List.append_assoc]
  rfl
set_option maxRecDepth 100000 in
set_option maxHeartbeats 1000000 in
theorem toOs (a : Option Addr) (l : List Prt) (n cap : Nat) (hl : l.length = n) (hn : n ≤ 1048576) (w : World) (hr : RdO w a l) :
    Calls Try.prog 120 #[.slice a n cap] w fun e w' => e = .returned (.slice (some ⟨w.heap.size, 0, none⟩) n n) ∧ RowO w' w.heap.size l ∧ Below w.heap.size w w' := by
  have HL : Hid (l.length = n) := hl
  have HW0 : Hid (Below w.heap.size w (w.alloc (.cells (prtV (List.replicate n (0, 0, 0, 0, 0))).toArray 168))) := (Below.refl w.heap.size w).alloc (Nat.le_refl _) _
  have HROW0 : Hid (RowO (w.alloc (.cells (prtV (List.replicate n (0, 0, 0, 0, 0))).toArray 168)) w.heap.size (uptoO l n 0)) := by rw [uptoO_zero]; exact heap_new w _
  have hmk := makeO n hn
  clear hl
  by_cases hp : 0 < n
  · obtain ⟨g, off, rfl, hc⟩ := hr (by have := HL.out; omega)
    have HC : Hid (∀ j (h : j < l.length), w.cell? ⟨g, off + j * 5, none⟩ = some (.int .i64 l[j].1) ∧ w.cell? ⟨g, off + j * 5 + 1, none⟩ = some (.int .i64 l[j].2.1) ∧ w.cell? ⟨g, off + j * 5 + 2, none⟩ = some (.int .i64 l[j].2.2.1) ∧ w.cell? ⟨g, off + j * 5 + 3, none⟩ = some (.int .i64 l[j].2.2.2.1) ∧ w.cell? ⟨g, off + j * 5 + 4, none⟩ = some (.int .i64 l[j].2.2.2.2)) := hc
    have hgl : g < w.heap.size := World.block_lt_of_cell? w ⟨g, off + 0 * 5, none⟩ (hc 0 (by have := HL.out; omega)).1
    clear hr hc
    go_enter Try.func120, Try.ntmps120
    go_wp2
    go_loopg [4] n (fun gk i wr => ∃ j : Nat, j + gk = n ∧ i = .int .i64 j ∧ Hid (RowO wr w.heap.size (uptoO l n j)) ∧ Hid (Below w.heap.size w wr))
    case atStart => exact ⟨0, by omega, rfl, HROW0, HW0⟩
    case round =>
      clear HROW0 HW0
      obtain ⟨j, hj, rfl, HROW, HW⟩ := hrel
      by_cases hlt : j < n
      · have hjl : j < l.length := by have := HL.out; omega
        have c := HC.out j hjl
        have c0 := (HW.out.cell (p := ⟨g, off + j * 5, none⟩) hgl).trans c.1
        have c1 := (HW.out.cell (p := ⟨g, off + j * 5 + 1, none⟩) hgl).trans c.2.1
        have c2 := (HW.out.cell (p := ⟨g, off + j * 5 + 2, none⟩) hgl).trans c.2.2.1
        have c3 := (HW.out.cell (p := ⟨g, off + j * 5 + 3, none⟩) hgl).trans c.2.2.2.1
        have c4 := (HW.out.cell (p := ⟨g, off + j * 5 + 4, none⟩) hgl).trans c.2.2.2.2
        clear c
        obtain ⟨x, e0⟩ : ∃ z, l[j].1 = z := ⟨_, rfl⟩
        obtain ⟨y, e1⟩ : ∃ z, l[j].2.1 = z := ⟨_, rfl⟩
        obtain ⟨z, e2⟩ : ∃ z, l[j].2.2.1 = z := ⟨_, rfl⟩
        obtain ⟨u, e3⟩ : ∃ z, l[j].2.2.2.1 = z := ⟨_, rfl⟩
        obtain ⟨v, e4⟩ : ∃ z, l[j].2.2.2.2 = z := ⟨_, rfl⟩
        rw [e0] at c0
        rw [e1] at c1
        rw [e2] at c2
        rw [e3] at c3
        rw [e4] at c4
        have HF : Hid ((x, y, z, u, v) = l[j]) := by rw [← e0, ← e1, ← e2, ← e3, ← e4]; rfl
        clear e0 e1 e2 e3 e4
        go_wp2_with fail
        refine (toO x y z u v _).mono ?_
        rintro e w1 ⟨rfl, hb1⟩
        have HR1 : Hid (RowO w1 w.heap.size (uptoO l n j)) := HROW.out.on hb1
        have HW1 : Hid (Below w.heap.size w w1) := HW.out.trans (hb1.mono HW.out.size)
        have hu : j < (uptoO l n j).length := by rw [uptoO_len HL.out (by omega)]; exact hlt
        have d := HR1.out.cell j hu
        have d0 := HR1.out.free (j * 5)
        have d1 := HR1.out.free (j * 5 + 1)
        have d2 := HR1.out.free (j * 5 + 2)
        have d3 := HR1.out.free (j * 5 + 3)
        have d4 := HR1.out.free (j * 5 + 4)
        have HR2 : Hid (RowO (((((w1.setCell ⟨w.heap.size, j * 5, none⟩ (.int .i64 x)).setCell ⟨w.heap.size, j * 5 + 1, none⟩ (.int .i64 y)).setCell ⟨w.heap.size, j * 5 + 2, none⟩ (.int .i64 z)).setCell ⟨w.heap.size, j * 5 + 3, none⟩ (.int .i64 u)).setCell ⟨w.heap.size, j * 5 + 4, none⟩ (.int .i64 v)) w.heap.size (uptoO l n (j + 1))) := by
          have := HR1.out.set j x y z u v
          rw [HF.out, uptoO_set HL.out hlt hjl] at this
          exact this
        have HW2 : Hid (Below w.heap.size w (((((w1.setCell ⟨w.heap.size, j * 5, none⟩ (.int .i64 x)).setCell ⟨w.heap.size, j * 5 + 1, none⟩ (.int .i64 y)).setCell ⟨w.heap.size, j * 5 + 2, none⟩ (.int .i64 z)).setCell ⟨w.heap.size, j * 5 + 3, none⟩ (.int .i64 u)).setCell ⟨w.heap.size, j * 5 + 4, none⟩ (.int .i64 v))) := ((((HW1.out.setCell (Nat.le_refl _) _).setCell (Nat.le_refl _) _).setCell (Nat.le_refl _) _).setCell (Nat.le_refl _) _).setCell (Nat.le_refl _) _
        generalize (uptoO l n j)[j].1 = q0 at d
        generalize (uptoO l n j)[j].2.1 = q1 at d
        generalize (uptoO l n j)[j].2.2.1 = q2 at d
        generalize (uptoO l n j)[j].2.2.2.1 = q3 at d
        generalize (uptoO l n j)[j].2.2.2.2 = q4 at d
        clear hb1 HROW HW hu HR1 HW1 c0 c1 c2 c3 c4
        go_wp2
        go_roundg (gk - 1)
        case measure => omega
        case rel => exact ⟨j + 1, by omega, by go_num, HR2, HW2⟩
      · obtain rfl : j = n := by omega
        have HROW' : Hid (RowO wr w.heap.size l) := by have := HROW.out; rw [uptoO_all HL.out] at this; exact this
        clear HROW
        go_wp2
        go_ret
        exact ⟨rfl, HROW'.out, HW.out⟩
  · obtain rfl : n = 0 := by omega
    have HROW' : Hid (RowO (w.alloc (.cells (prtV (List.replicate 0 (0, 0, 0, 0, 0))).toArray 168)) w.heap.size l) := by have := HROW0.out; rw [uptoO_all HL.out] at this; exact this
    clear hr hp HROW0
    have hmk0 : ∀ w : World, (Instr.makeSlice 26 (.int .i64 0) (.int .i64 0)).run Try.prog w = .ok (.slice (some ⟨w.heap.size, 0, none⟩) 0 0) (w.alloc (.cells (prtV (List.replicate 0 (0, 0, 0, 0, 0))).toArray 168)) := hmk
    clear hmk
    go_enter Try.func120, Try.ntmps120
    go_wp2
    go_rounds 1
    go_ret
    exact ⟨rfl, HROW'.out, HW0.out⟩
theorem eqO (x y z u v : Int) (w : World) : Calls Try.prog 182 #[.agg #[.int .i64 x, .int .i64 y, .int .i64 z, .int .i64 u, .int .i64 v], .agg #[.int .i64 x, .int .i64 y, .int .i64 z, .int .i64 u, .int .i64 v]] w fun e w' => e = .returned (.bool true) ∧ Below w.heap.size w w' := by
  go_enter Try.func182, Try.ntmps182
  go_wp2
  go_ret
  exact ⟨rfl, ((Below.refl _ _).alloc (Nat.le_refl _) _).alloc (by simp) _⟩
theorem keepO {w W W' : World} {b c o m : Nat} {x y z u v x' y' z' u' v' : Value} (hb : Below W.heap.size W W') (h : W.cell? ⟨b, o, none⟩ = some x ∧ W.cell? ⟨b, o + 1, none⟩ = some y ∧ W.cell? ⟨b, o + 2, none⟩ = some z ∧ W.cell? ⟨b, o + 3, none⟩ = some u ∧ W.cell? ⟨b, o + 4, none⟩ = some v ∧ W.cell? ⟨c, m, none⟩ = some x' ∧ W.cell? ⟨c, m + 1, none⟩ = some y' ∧ W.cell? ⟨c, m + 2, none⟩ = some z' ∧ W.cell? ⟨c, m + 3, none⟩ = some u' ∧ W.cell? ⟨c, m + 4, none⟩ = some v' ∧ Below w.heap.size w W) :
    W'.cell? ⟨b, o, none⟩ = some x ∧ W'.cell? ⟨b, o + 1, none⟩ = some y ∧ W'.cell? ⟨b, o + 2, none⟩ = some z ∧ W'.cell? ⟨b, o + 3, none⟩ = some u ∧ W'.cell? ⟨b, o + 4, none⟩ = some v ∧ W'.cell? ⟨c, m, none⟩ = some x' ∧ W'.cell? ⟨c, m + 1, none⟩ = some y' ∧ W'.cell? ⟨c, m + 2, none⟩ = some z' ∧ W'.cell? ⟨c, m + 3, none⟩ = some u' ∧ W'.cell? ⟨c, m + 4, none⟩ = some v' ∧ Below w.heap.size w W' := by
  obtain ⟨h0, h1, h2, h3, h4, h5, h6, h7, h8, h9, h10⟩ := h
  have l1 := World.block_lt_of_cell? W ⟨b, o, none⟩ h0
  have l2 := World.block_lt_of_cell? W ⟨c, m, none⟩ h5
  exact ⟨(hb.cell (p := ⟨b, o, none⟩) l1).trans h0, (hb.cell (p := ⟨b, o + 1, none⟩) l1).trans h1, (hb.cell (p := ⟨b, o + 2, none⟩) l1).trans h2, (hb.cell (p := ⟨b, o + 3, none⟩) l1).trans h3, (hb.cell (p := ⟨b, o + 4, none⟩) l1).trans h4, (hb.cell (p := ⟨c, m, none⟩) l2).trans h5, (hb.cell (p := ⟨c, m + 1, none⟩) l2).trans h6, (hb.cell (p := ⟨c, m + 2, none⟩) l2).trans h7, (hb.cell (p := ⟨c, m + 3, none⟩) l2).trans h8, (hb.cell (p := ⟨c, m + 4, none⟩) l2).trans h9, h10.trans (hb.mono h10.size)⟩
set_option maxRecDepth 100000 in
set_option maxHeartbeats 2000000 in
theorem eqOs (a b : Option Addr) (l : List Prt) (n ca cb : Nat) (hl : l.length = n) (hn : n ≤ 1048576) (w : World) (ha : RdO w a l) (hb : RdO w b l) :
    Calls Try.prog 128 #[.slice a n ca, .slice b n cb] w fun e w' => e = .returned (.bool true) ∧ Below w.heap.size w w' := by
  have HL : Hid (l.length = n) := hl
  clear hl
  by_cases hp : 0 < n
  · obtain ⟨ga, oa, rfl, hca⟩ := ha (by have := HL.out; omega)
    obtain ⟨gb, ob, rfl, hcb⟩ := hb (by have := HL.out; omega)
    have HA : Hid (∀ j (h : j < l.length), w.cell? ⟨ga, oa + j * 5, none⟩ = some (.int .i64 l[j].1) ∧ w.cell? ⟨ga, oa + j * 5 + 1, none⟩ = some (.int .i64 l[j].2.1) ∧ w.cell? ⟨ga, oa + j * 5 + 2, none⟩ = some (.int .i64 l[j].2.2.1) ∧ w.cell? ⟨ga, oa + j * 5 + 3, none⟩ = some (.int .i64 l[j].2.2.2.1) ∧ w.cell? ⟨ga, oa + j * 5 + 4, none⟩ = some (.int .i64 l[j].2.2.2.2)) := hca
    have HB : Hid (∀ j (h : j < l.length), w.cell? ⟨gb, ob + j * 5, none⟩ = some (.int .i64 l[j].1) ∧ w.cell? ⟨gb, ob + j * 5 + 1, none⟩ = some (.int .i64 l[j].2.1) ∧ w.cell? ⟨gb, ob + j * 5 + 2, none⟩ = some (.int .i64 l[j].2.2.1) ∧ w.cell? ⟨gb, ob + j * 5 + 3, none⟩ = some (.int .i64 l[j].2.2.2.1) ∧ w.cell? ⟨gb, ob + j * 5 + 4, none⟩ = some (.int .i64 l[j].2.2.2.2)) := hcb
    have la : ga < w.heap.size := World.block_lt_of_cell? w ⟨ga, oa + 0 * 5, none⟩ (hca 0 (by have := HL.out; omega)).1
    have lb : gb < w.heap.size := World.block_lt_of_cell? w ⟨gb, ob + 0 * 5, none⟩ (hcb 0 (by have := HL.out; omega)).1
    clear ha hb hca hcb
    go_enter Try.func128, Try.ntmps128
    go_wp2
    go_loopg [5] n (fun gk i wr => ∃ j : Nat, j + gk = n ∧ i = .int .i64 j ∧ Hid (Below w.heap.size w wr))
    case atStart => exact ⟨0, by omega, rfl, Below.refl _ _⟩
    case round =>
      obtain ⟨j, hj, rfl, HW⟩ := hrel
      by_cases hlt : j < n
      · have hjl : j < l.length := by have := HL.out; omega
        have c := HA.out j hjl
        have d := HB.out j hjl
        have c0 := (HW.out.cell (p := ⟨ga, oa + j * 5, none⟩) la).trans c.1
        have d0 := (HW.out.cell (p := ⟨gb, ob + j * 5, none⟩) lb).trans d.1
        have c1 := (HW.out.cell (p := ⟨ga, oa + j * 5 + 1, none⟩) la).trans c.2.1
        have d1 := (HW.out.cell (p := ⟨gb, ob + j * 5 + 1, none⟩) lb).trans d.2.1
        have c2 := (HW.out.cell (p := ⟨ga, oa + j * 5 + 2, none⟩) la).trans c.2.2.1
        have d2 := (HW.out.cell (p := ⟨gb, ob + j * 5 + 2, none⟩) lb).trans d.2.2.1
        have c3 := (HW.out.cell (p := ⟨ga, oa + j * 5 + 3, none⟩) la).trans c.2.2.2.1
        have d3 := (HW.out.cell (p := ⟨gb, ob + j * 5 + 3, none⟩) lb).trans d.2.2.2.1
        have c4 := (HW.out.cell (p := ⟨ga, oa + j * 5 + 4, none⟩) la).trans c.2.2.2.2
        have d4 := (HW.out.cell (p := ⟨gb, ob + j * 5 + 4, none⟩) lb).trans d.2.2.2.2
        clear c d
        generalize l[j].1 = x at *
        generalize l[j].2.1 = y at *
        generalize l[j].2.2.1 = z at *
        generalize l[j].2.2.2.1 = u at *
        generalize l[j].2.2.2.2 = v at *
        have i0 : (0 : Int) ≤ (j : Int) := by omega
        have i1 : (j : Int) < (n : Int) := by omega
        have HC : Hid (wr.cell? ⟨ga, oa + j * 5, none⟩ = some (.int .i64 x) ∧ wr.cell? ⟨ga, oa + j * 5 + 1, none⟩ = some (.int .i64 y) ∧ wr.cell? ⟨ga, oa + j * 5 + 2, none⟩ = some (.int .i64 z) ∧ wr.cell? ⟨ga, oa + j * 5 + 3, none⟩ = some (.int .i64 u) ∧ wr.cell? ⟨ga, oa + j * 5 + 4, none⟩ = some (.int .i64 v) ∧ wr.cell? ⟨gb, ob + j * 5, none⟩ = some (.int .i64 x) ∧ wr.cell? ⟨gb, ob + j * 5 + 1, none⟩ = some (.int .i64 y) ∧ wr.cell? ⟨gb, ob + j * 5 + 2, none⟩ = some (.int .i64 z) ∧ wr.cell? ⟨gb, ob + j * 5 + 3, none⟩ = some (.int .i64 u) ∧ wr.cell? ⟨gb, ob + j * 5 + 4, none⟩ = some (.int .i64 v) ∧ Below w.heap.size w wr) := ⟨c0, c1, c2, c3, c4, d0, d1, d2, d3, d4, HW.out⟩
        clear c0 d0 c1 d1 c2 d2 c3 d3 c4 d4 hjl
        go_wp2
        go_region_held3 (fun w' => w'.cell? ⟨ga, oa + j * 5, none⟩ = some (.int .i64 x) ∧ w'.cell? ⟨ga, oa + j * 5 + 1, none⟩ = some (.int .i64 y) ∧ w'.cell? ⟨ga, oa + j * 5 + 2, none⟩ = some (.int .i64 z) ∧ w'.cell? ⟨ga, oa + j * 5 + 3, none⟩ = some (.int .i64 u) ∧ w'.cell? ⟨ga, oa + j * 5 + 4, none⟩ = some (.int .i64 v) ∧ w'.cell? ⟨gb, ob + j * 5, none⟩ = some (.int .i64 x) ∧ w'.cell? ⟨gb, ob + j * 5 + 1, none⟩ = some (.int .i64 y) ∧ w'.cell? ⟨gb, ob + j * 5 + 2, none⟩ = some (.int .i64 z) ∧ w'.cell? ⟨gb, ob + j * 5 + 3, none⟩ = some (.int .i64 u) ∧ w'.cell? ⟨gb, ob + j * 5 + 4, none⟩ = some (.int .i64 v) ∧ Below w.heap.size w w') (first | (refine keepO (by assumption) ?_; assumption) | (exact ⟨HC.out.1, HC.out.2.1, HC.out.2.2.1, HC.out.2.2.2.1, HC.out.2.2.2.2.1, HC.out.2.2.2.2.2.1, HC.out.2.2.2.2.2.2.1, HC.out.2.2.2.2.2.2.2.1, HC.out.2.2.2.2.2.2.2.2.1, HC.out.2.2.2.2.2.2.2.2.2.1, HC.out.2.2.2.2.2.2.2.2.2.2.drew⟩)) (first | (go_at_call 182; refine (eqO x y z u v _).mono ?_; rintro e w2 ⟨rfl, hb2⟩))
        rename_i HH
        have HW2 : Hid (Below w.heap.size w w2) := HH.2.2.2.2.2.2.2.2.2.2
        clear HH hb2 HC HW
        go_wp2
        go_roundg (gk - 1)
        case measure => omega
        case rel => exact ⟨j + 1, by omega, by go_num, HW2⟩
      · go_wp2
        go_ret
        exact ⟨rfl, HW.out⟩
  · obtain rfl : n = 0 := by omega
    clear ha hb
    go_enter Try.func128, Try.ntmps128
    go_wp2
    go_rounds 1
    go_ret
    exact ⟨rfl, Below.refl _ _⟩
end Go.Proofs.Ytfdhcchakoldpaa
