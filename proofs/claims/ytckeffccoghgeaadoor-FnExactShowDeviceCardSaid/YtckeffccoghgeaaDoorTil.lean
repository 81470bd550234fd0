/-
  Lists of Ticks: in memory, read, copied, compared, sized.
-/
import Derived.Test.YtckeffccoghgeaaDoorOrl
namespace Go.Proofs.YtckeffccoghgeaaDoor
open Go.ChangeShapes Go.WideShapes Go.ChangeAt Go.RowKit Go.PlainAid
set_option linter.unusedVariables false

abbrev Tk3 := Int × Int × Int
def tkV : List Tk3 → List Value
  | [] => []
  | r :: t => .int .i64 r.1 :: .int .i64 r.2.1 :: .int .i64 r.2.2 :: tkV t
theorem tkV_len : ∀ l : List Tk3, (tkV l).length = l.length * 3
  | [] => rfl
  | r :: t => by simp [tkV, tkV_len t]; omega
theorem tkV_append : ∀ x y : List Tk3, tkV (x ++ y) = tkV x ++ tkV y
  | [], y => rfl
  | r :: t, y => by simp [tkV, tkV_append t y]
theorem tkV_at : ∀ (l : List Tk3) (j : Nat) (h : j < l.length), (tkV l)[j * 3]? = some (.int .i64 l[j].1) ∧ (tkV l)[j * 3 + 1]? = some (.int .i64 l[j].2.1) ∧ (tkV l)[j * 3 + 2]? = some (.int .i64 l[j].2.2)
  | [], j, h => by simp at h
  | r :: t, 0, h => by simp [tkV]
  | r :: t, j + 1, h => by
    have := tkV_at t j (by simpa using h)
    rw [show (j + 1) * 3 = j * 3 + 1 + 1 + 1 by omega, show j * 3 + 1 + 1 + 1 + 2 = j * 3 + 2 + 1 + 1 + 1 by omega]
    simpa [tkV] using this
theorem tkV_one : ∀ l : List Tk3, ∀ v ∈ tkV l, v.oneCell' = true
  | [], v, h => by cases h
  | r :: t, v, h => by
    rcases List.mem_cons.1 h with rfl | h
    · rfl
    · skip
      rcases List.mem_cons.1 h with rfl | h
      · rfl
      · skip
        rcases List.mem_cons.1 h with rfl | h
        · rfl
        · exact tkV_one t v h
theorem infoY : (Tryd.prog.info? 74).map (fun i => (i.zero, i.size, i.bytes)) = some (some (.agg #[.int .i64 0, .int .i64 0, .int .i64 0]), 3, 24) := by kernel_rfl
theorem boxY_cells {w : World} {k : Nat} {t : TypeId} {x y z : Value} (h : w.heap[k]? = some (.cells #[x, y, z] t)) :
    (w.cell? ⟨k, 0, none⟩ = some x ∧ w.cell? ⟨k, 1, none⟩ = some y ∧ w.cell? ⟨k, 2, none⟩ = some z) ∧ w.frozen? ⟨k, 0, none⟩ = false ∧ w.frozen? ⟨k, 1, none⟩ = false ∧ w.frozen? ⟨k, 2, none⟩ = false := by
  refine ⟨⟨?_, ?_, ?_⟩, ?_, ?_, ?_⟩ <;> simp [World.cell?, World.frozen?, h]
/-- a list that is read, wherever it lies -/
def RdY (w : World) (a : Option Addr) (l : List Tk3) : Prop := 0 < l.length → ∃ g off, a = some ⟨g, off, none⟩ ∧ ∀ j (h : j < l.length), w.cell? ⟨g, off + j * 3, none⟩ = some (.int .i64 l[j].1) ∧ w.cell? ⟨g, off + j * 3 + 1, none⟩ = some (.int .i64 l[j].2.1) ∧ w.cell? ⟨g, off + j * 3 + 2, none⟩ = some (.int .i64 l[j].2.2)
theorem RdY.keep {w w' : World} {a : Option Addr} {l : List Tk3} {B : Nat} (h : RdY w a l) (hb : Below B w w') (hB : w.heap.size ≤ B) : RdY w' a l := fun h0 => by
  obtain ⟨g, off, ha, hc⟩ := h h0
  refine ⟨g, off, ha, fun j hj => ?_⟩
  obtain ⟨h0, h1, h2⟩ := hc j hj
  have hlt := Nat.lt_of_lt_of_le (World.block_lt_of_cell? w ⟨g, off + j * 3, none⟩ h0) hB
  exact ⟨(hb.cell (p := ⟨g, off + j * 3, none⟩) hlt).trans h0, (hb.cell (p := ⟨g, off + j * 3 + 1, none⟩) hlt).trans h1, (hb.cell (p := ⟨g, off + j * 3 + 2, none⟩) hlt).trans h2⟩
theorem RdY.on {w w' : World} {a : Option Addr} {l : List Tk3} (h : RdY w a l) (hb : Below w.heap.size w w') : RdY w' a l := h.keep hb (Nat.le_refl _)
/-- an owned list -/
def OwnY (w : World) (B : Nat) (v : Value) (n : Nat) (l : List Tk3) : Prop := w.ownsRow B 74 3 v n (tkV l)
theorem OwnY.len {w : World} {B n : Nat} {v : Value} {l : List Tk3} (h : OwnY w B v n l) : l.length = n := by
  have := h.1; rw [tkV_len] at this; omega
theorem OwnY.rd {w : World} {B n c : Nat} {a : Option Addr} {l : List Tk3} (h : OwnY w B (.slice a n c) n l) : RdY w a l := fun h0 => by
  have hl := h.len
  rcases h.2 with ⟨hv, e⟩ | ⟨g, cap, cur, hv, _⟩
  · omega
  · cases hv
    refine ⟨g, 0, rfl, fun j hj => ?_⟩
    obtain ⟨h0, h1, h2⟩ := tkV_at l j hj
    refine ⟨?_, ?_, ?_⟩
    · rw [Nat.zero_add, h.cellAt (j * 3) (by omega)]; exact h0
    · rw [Nat.zero_add, h.cellAt (j * 3 + 1) (by omega)]; exact h1
    · rw [Nat.zero_add, h.cellAt (j * 3 + 2) (by omega)]; exact h2
theorem tkV_set : ∀ (l : List Tk3) (j : Nat) (x y z : Int), (((tkV l).set (j * 3) (.int .i64 x)).set (j * 3 + 1) (.int .i64 y)).set (j * 3 + 2) (.int .i64 z) = tkV (l.set j (x, y, z))
  | [], j, x, y, z => by simp [tkV]
  | r :: l, 0, x, y, z => by simp [tkV]
  | r :: l, j + 1, x, y, z => by
    have := tkV_set l j x y z
    rw [show (j + 1) * 3 = j * 3 + 1 + 1 + 1 by omega, show j * 3 + 1 + 1 + 1 + 2 = j * 3 + 2 + 1 + 1 + 1 by omega]
    simpa [tkV] using this
/-- a block that is such a list, whole -/
def RowY (w : World) (g : Nat) (l : List Tk3) : Prop := w.heap[g]? = some (.cells (tkV l).toArray 74 (0, 0))
theorem RowY.lt {w : World} {g : Nat} {l : List Tk3} (h : RowY w g l) : g < w.heap.size := row_lt h
theorem RowY.on {w w' : World} {g : Nat} {l : List Tk3} (h : RowY w g l) (hb : Below w.heap.size w w') : RowY w' g l := row_after h hb (row_lt h)
theorem RowY.cell {w : World} {g : Nat} {l : List Tk3} (h : RowY w g l) (j : Nat) (hj : j < l.length) : w.cell? ⟨g, j * 3, none⟩ = some (.int .i64 l[j].1) ∧ w.cell? ⟨g, j * 3 + 1, none⟩ = some (.int .i64 l[j].2.1) ∧ w.cell? ⟨g, j * 3 + 2, none⟩ = some (.int .i64 l[j].2.2) := by
  have := tkV_at l j hj
  rw [cell_of_row w g (j * 3) _ _ (0, 0) h, cell_of_row w g (j * 3 + 1) _ _ (0, 0) h, cell_of_row w g (j * 3 + 2) _ _ (0, 0) h]
  simpa using this
theorem RowY.free {w : World} {g : Nat} {l : List Tk3} (h : RowY w g l) (j : Nat) : w.frozen? ⟨g, j, none⟩ = false := frozen_of_row w g j _ _ h
theorem RowY.rd {w : World} {g : Nat} {l : List Tk3} (h : RowY w g l) : RdY w (some ⟨g, 0, none⟩) l := fun _ => ⟨g, 0, rfl, fun j hj => by rw [Nat.zero_add]; exact h.cell j hj⟩
theorem RowY.set {w : World} {g : Nat} {l : List Tk3} (h : RowY w g l) (j : Nat) (x y z : Int) : RowY (((w.setCell ⟨g, j * 3, none⟩ (.int .i64 x)).setCell ⟨g, j * 3 + 1, none⟩ (.int .i64 y)).setCell ⟨g, j * 3 + 2, none⟩ (.int .i64 z)) g (l.set j (x, y, z)) := by
  unfold RowY at h ⊢
  have h1 := heap_setCell_same w g (j * 3) _ _ (.int .i64 x) h
  have h2 := heap_setCell_same _ g (j * 3 + 1) _ _ (.int .i64 y) h1
  rw [heap_setCell_same _ g (j * 3 + 2) _ _ (.int .i64 z) h2, ← tkV_set]
  simp
theorem tkV_zero (n : Nat) : madeCells #[.int .i64 0, .int .i64 0, .int .i64 0] (n * 3) = (tkV (List.replicate n (0, 0, 0))).toArray := by
  apply Array.ext
  · simp [madeCells, tkV_len]
  · intro j h1 h2
    have hj : j < n * 3 := by simpa [madeCells] using h1
    have h0 : j / 3 < n := by omega
    have hr := tkV_at (List.replicate n ((0, 0, 0) : Tk3)) (j / 3) (by simpa using h0)
    have h3 : j % 3 = 0 ∨ j % 3 = 1 ∨ j % 3 = 2 := by omega
    have hz : (tkV (List.replicate n ((0, 0, 0) : Tk3)))[j]? = some (.int .i64 0) := by
      rcases h3 with e | e | e
      · have := hr.1
        rw [show j / 3 * 3 = j by omega] at this
        simpa using this
      · have := hr.2.1
        rw [show j / 3 * 3 + 1 = j by omega] at this
        simpa using this
      · have := hr.2.2
        rw [show j / 3 * 3 + 2 = j by omega] at this
        simpa using this
    have hl : (madeCells #[Value.int .i64 0, .int .i64 0, .int .i64 0] (n * 3))[j] = .int .i64 0 := by
      rcases h3 with e | e | e <;> simp [madeCells, e]
    rw [hl]
    have hj2 : j < (tkV (List.replicate n ((0, 0, 0) : Tk3))).length := by simpa using h2
    rw [List.getElem?_eq_getElem hj2] at hz
    simpa using (Option.some.inj hz).symm
theorem makeY (n : Nat) (hn : n ≤ 1048576) (w : World) : (Instr.makeSlice 41 (.int .i64 n) (.int .i64 n)).run Tryd.prog w = .ok (.slice (some ⟨w.heap.size, 0, none⟩) n n) (w.alloc (.cells (tkV (List.replicate n (0, 0, 0))).toArray 74)) := by
  obtain ⟨i0, hi, hz0, hz1, hz2⟩ := info_parts infoY
  have h := run_make (P := Tryd.prog) w 41 74 i0 _ Tryd.underlying41 hi hz0 .i64 .i64 n n (by omega) (Int.le_refl _) (by rw [hz2]; omega) (by omega)
  rw [hz1, Int.toNat_natCast, show (Value.agg #[.int .i64 0, .int .i64 0, .int .i64 0]).cells = #[.int .i64 0, .int .i64 0, .int .i64 0] from rfl, tkV_zero] at h
  exact h
set_option maxRecDepth 100000 in
set_option maxHeartbeats 1000000 in
theorem toY (x y z : Int) (w : World) : Calls Tryd.prog 37 #[.agg #[.int .i64 x, .int .i64 y, .int .i64 z]] w fun e w' => e = .returned (.agg #[.int .i64 x, .int .i64 y, .int .i64 z]) ∧ Below w.heap.size w w' := by
  go_enter Tryd.func37, Tryd.ntmps37
  go_wp2
  refine bodyPost_ret (v := .agg #[.int .i64 x, .int .i64 y, .int .i64 z]) (by simp [results, Tryd.results37, go_sem]) rfl ⟨rfl, ?_⟩
  exact (((Below.refl _ _).alloc (Nat.le_refl _) _).alloc (by simp) _).alloc (by simp; omega) _
/-- the first j copied, the rest still 0 -/
def uptoY (l : List Tk3) (n j : Nat) : List Tk3 := l.take j ++ List.replicate (n - j) (0, 0, 0)
theorem uptoY_zero (l : List Tk3) (n : Nat) : uptoY l n 0 = List.replicate n (0, 0, 0) := by simp [uptoY]
theorem uptoY_len {l : List Tk3} {n j : Nat} (hl : l.length = n) (h : j ≤ n) : (uptoY l n j).length = n := by simp [uptoY]; omega
theorem uptoY_all {l : List Tk3} {n : Nat} (hl : l.length = n) : uptoY l n n = l := by simp [uptoY]; exact List.take_of_length_le (by omega)
theorem uptoY_set {l : List Tk3} {n j : Nat} (hl : l.length = n) (h : j < n) (hj : j < l.length) : (uptoY l n j).set j l[j] = uptoY l n (j + 1) := by
  have h1 : (l.take j).length = j := by simp; omega
  unfold uptoY
  obtain ⟨m, hm⟩ : ∃ m, n - j = m + 1 := ⟨n - j - 1, by omega⟩
  rw [hm, show n - (j + 1) = m by omega, List.replicate_succ, List.set_append_right _ _ (by omega), h1, Nat.sub_self, List.set_cons_zero, List.take_succ_eq_append_getElem hj, List.append_assoc]
  rfl
set_option maxRecDepth 100000 in
set_option maxHeartbeats 1000000 in
theorem toYs (a : Option Addr) (l : List Tk3) (n cap : Nat) (hl : l.length = n) (hn : n ≤ 1048576) (w : World) (hr : RdY w a l) :
    Calls Tryd.prog 18 #[.slice a n cap] w fun e w' => e = .returned (.slice (some ⟨w.heap.size, 0, none⟩) n n) ∧ RowY w' w.heap.size l ∧ Below w.heap.size w w' := by
  have HL : Hid (l.length = n) := hl
  have HW0 : Hid (Below w.heap.size w (w.alloc (.cells (tkV (List.replicate n (0, 0, 0))).toArray 74))) := (Below.refl w.heap.size w).alloc (Nat.le_refl _) _
  have HROW0 : Hid (RowY (w.alloc (.cells (tkV (List.replicate n (0, 0, 0))).toArray 74)) w.heap.size (uptoY l n 0)) := by rw [uptoY_zero]; exact heap_new w _
  have hmk := makeY n hn
  clear hl
  by_cases hp : 0 < n
  · obtain ⟨g, off, rfl, hc⟩ := hr (by have := HL.out; omega)
    have HC : Hid (∀ j (h : j < l.length), w.cell? ⟨g, off + j * 3, none⟩ = some (.int .i64 l[j].1) ∧ w.cell? ⟨g, off + j * 3 + 1, none⟩ = some (.int .i64 l[j].2.1) ∧ w.cell? ⟨g, off + j * 3 + 2, none⟩ = some (.int .i64 l[j].2.2)) := hc
    have hgl : g < w.heap.size := World.block_lt_of_cell? w ⟨g, off + 0 * 3, none⟩ (hc 0 (by have := HL.out; omega)).1
    clear hr hc
    go_enter Tryd.func18, Tryd.ntmps18
    go_wp2
    go_loopg [4] n (fun gk i wr => ∃ j : Nat, j + gk = n ∧ i = .int .i64 j ∧ Hid (RowY wr w.heap.size (uptoY l n j)) ∧ Hid (Below w.heap.size w wr))
    case atStart => exact ⟨0, by omega, rfl, HROW0, HW0⟩
    case round =>
      clear HROW0 HW0
      obtain ⟨j, hj, rfl, HROW, HW⟩ := hrel
      by_cases hlt : j < n
      · have hjl : j < l.length := by have := HL.out; omega
        have c := HC.out j hjl
        have c0 := (HW.out.cell (p := ⟨g, off + j * 3, none⟩) hgl).trans c.1
        have c1 := (HW.out.cell (p := ⟨g, off + j * 3 + 1, none⟩) hgl).trans c.2.1
        have c2 := (HW.out.cell (p := ⟨g, off + j * 3 + 2, none⟩) hgl).trans c.2.2
        clear c
        obtain ⟨x, e0⟩ : ∃ z, l[j].1 = z := ⟨_, rfl⟩
        obtain ⟨y, e1⟩ : ∃ z, l[j].2.1 = z := ⟨_, rfl⟩
        obtain ⟨z, e2⟩ : ∃ z, l[j].2.2 = z := ⟨_, rfl⟩
        rw [e0] at c0
        rw [e1] at c1
        rw [e2] at c2
        have HF : Hid ((x, y, z) = l[j]) := by rw [← e0, ← e1, ← e2]; rfl
        clear e0 e1 e2
        go_wp2_with fail
        refine (toY x y z _).mono ?_
        rintro e w1 ⟨rfl, hb1⟩
        have HR1 : Hid (RowY w1 w.heap.size (uptoY l n j)) := HROW.out.on hb1
        have HW1 : Hid (Below w.heap.size w w1) := HW.out.trans (hb1.mono HW.out.size)
        have hu : j < (uptoY l n j).length := by rw [uptoY_len HL.out (by omega)]; exact hlt
        have d := HR1.out.cell j hu
        have d0 := HR1.out.free (j * 3)
        have d1 := HR1.out.free (j * 3 + 1)
        have d2 := HR1.out.free (j * 3 + 2)
        have HR2 : Hid (RowY (((w1.setCell ⟨w.heap.size, j * 3, none⟩ (.int .i64 x)).setCell ⟨w.heap.size, j * 3 + 1, none⟩ (.int .i64 y)).setCell ⟨w.heap.size, j * 3 + 2, none⟩ (.int .i64 z)) w.heap.size (uptoY l n (j + 1))) := by
          have := HR1.out.set j x y z
          rw [HF.out, uptoY_set HL.out hlt hjl] at this
          exact this
        have HW2 : Hid (Below w.heap.size w (((w1.setCell ⟨w.heap.size, j * 3, none⟩ (.int .i64 x)).setCell ⟨w.heap.size, j * 3 + 1, none⟩ (.int .i64 y)).setCell ⟨w.heap.size, j * 3 + 2, none⟩ (.int .i64 z))) := ((HW1.out.setCell (Nat.le_refl _) _).setCell (Nat.le_refl _) _).setCell (Nat.le_refl _) _
        generalize (uptoY l n j)[j].1 = q0 at d
        generalize (uptoY l n j)[j].2.1 = q1 at d
        generalize (uptoY l n j)[j].2.2 = q2 at d
        clear hb1 HROW HW hu HR1 HW1 c0 c1 c2
        go_wp2
        go_roundg (gk - 1)
        case measure => omega
        case rel => exact ⟨j + 1, by omega, by go_num, HR2, HW2⟩
      · obtain rfl : j = n := by omega
        have HROW' : Hid (RowY wr w.heap.size l) := by have := HROW.out; rw [uptoY_all HL.out] at this; exact this
        clear HROW
        go_wp2
        go_ret
        exact ⟨rfl, HROW'.out, HW.out⟩
  · obtain rfl : n = 0 := by omega
    have HROW' : Hid (RowY (w.alloc (.cells (tkV (List.replicate 0 (0, 0, 0))).toArray 74)) w.heap.size l) := by have := HROW0.out; rw [uptoY_all HL.out] at this; exact this
    clear hr hp HROW0
    have hmk0 : ∀ w : World, (Instr.makeSlice 41 (.int .i64 0) (.int .i64 0)).run Tryd.prog w = .ok (.slice (some ⟨w.heap.size, 0, none⟩) 0 0) (w.alloc (.cells (tkV (List.replicate 0 (0, 0, 0))).toArray 74)) := hmk
    clear hmk
    go_enter Tryd.func18, Tryd.ntmps18
    go_wp2
    go_rounds 1
    go_ret
    exact ⟨rfl, HROW'.out, HW0.out⟩
theorem eqY (x y z : Int) (w : World) : Calls Tryd.prog 48 #[.agg #[.int .i64 x, .int .i64 y, .int .i64 z], .agg #[.int .i64 x, .int .i64 y, .int .i64 z]] w fun e w' => e = .returned (.bool true) ∧ Below w.heap.size w w' := by
  go_enter Tryd.func48, Tryd.ntmps48
  go_wp2
  go_ret
  exact ⟨rfl, ((Below.refl _ _).alloc (Nat.le_refl _) _).alloc (by simp) _⟩
theorem keepY {w W W' : World} {b c o m : Nat} {x y z x' y' z' : Value} (hb : Below W.heap.size W W') (h : W.cell? ⟨b, o, none⟩ = some x ∧ W.cell? ⟨b, o + 1, none⟩ = some y ∧ W.cell? ⟨b, o + 2, none⟩ = some z ∧ W.cell? ⟨c, m, none⟩ = some x' ∧ W.cell? ⟨c, m + 1, none⟩ = some y' ∧ W.cell? ⟨c, m + 2, none⟩ = some z' ∧ Below w.heap.size w W) :
    W'.cell? ⟨b, o, none⟩ = some x ∧ W'.cell? ⟨b, o + 1, none⟩ = some y ∧ W'.cell? ⟨b, o + 2, none⟩ = some z ∧ W'.cell? ⟨c, m, none⟩ = some x' ∧ W'.cell? ⟨c, m + 1, none⟩ = some y' ∧ W'.cell? ⟨c, m + 2, none⟩ = some z' ∧ Below w.heap.size w W' := by
  obtain ⟨h0, h1, h2, h3, h4, h5, h6⟩ := h
  have l1 := World.block_lt_of_cell? W ⟨b, o, none⟩ h0
  have l2 := World.block_lt_of_cell? W ⟨c, m, none⟩ h3
  exact ⟨(hb.cell (p := ⟨b, o, none⟩) l1).trans h0, (hb.cell (p := ⟨b, o + 1, none⟩) l1).trans h1, (hb.cell (p := ⟨b, o + 2, none⟩) l1).trans h2, (hb.cell (p := ⟨c, m, none⟩) l2).trans h3, (hb.cell (p := ⟨c, m + 1, none⟩) l2).trans h4, (hb.cell (p := ⟨c, m + 2, none⟩) l2).trans h5, h6.trans (hb.mono h6.size)⟩
set_option maxRecDepth 100000 in
set_option maxHeartbeats 2000000 in
theorem eqYs (a b : Option Addr) (l : List Tk3) (n ca cb : Nat) (hl : l.length = n) (hn : n ≤ 1048576) (w : World) (ha : RdY w a l) (hb : RdY w b l) :
    Calls Tryd.prog 26 #[.slice a n ca, .slice b n cb] w fun e w' => e = .returned (.bool true) ∧ Below w.heap.size w w' := by
  have HL : Hid (l.length = n) := hl
  clear hl
  by_cases hp : 0 < n
  · obtain ⟨ga, oa, rfl, hca⟩ := ha (by have := HL.out; omega)
    obtain ⟨gb, ob, rfl, hcb⟩ := hb (by have := HL.out; omega)
    have HA : Hid (∀ j (h : j < l.length), w.cell? ⟨ga, oa + j * 3, none⟩ = some (.int .i64 l[j].1) ∧ w.cell? ⟨ga, oa + j * 3 + 1, none⟩ = some (.int .i64 l[j].2.1) ∧ w.cell? ⟨ga, oa + j * 3 + 2, none⟩ = some (.int .i64 l[j].2.2)) := hca
    have HB : Hid (∀ j (h : j < l.length), w.cell? ⟨gb, ob + j * 3, none⟩ = some (.int .i64 l[j].1) ∧ w.cell? ⟨gb, ob + j * 3 + 1, none⟩ = some (.int .i64 l[j].2.1) ∧ w.cell? ⟨gb, ob + j * 3 + 2, none⟩ = some (.int .i64 l[j].2.2)) := hcb
    have la : ga < w.heap.size := World.block_lt_of_cell? w ⟨ga, oa + 0 * 3, none⟩ (hca 0 (by have := HL.out; omega)).1
    have lb : gb < w.heap.size := World.block_lt_of_cell? w ⟨gb, ob + 0 * 3, none⟩ (hcb 0 (by have := HL.out; omega)).1
    clear ha hb hca hcb
    go_enter Tryd.func26, Tryd.ntmps26
    go_wp2
    go_loopg [5] n (fun gk i wr => ∃ j : Nat, j + gk = n ∧ i = .int .i64 j ∧ Hid (Below w.heap.size w wr))
    case atStart => exact ⟨0, by omega, rfl, Below.refl _ _⟩
    case round =>
      obtain ⟨j, hj, rfl, HW⟩ := hrel
      by_cases hlt : j < n
      · have hjl : j < l.length := by have := HL.out; omega
        have c := HA.out j hjl
        have d := HB.out j hjl
        have c0 := (HW.out.cell (p := ⟨ga, oa + j * 3, none⟩) la).trans c.1
        have d0 := (HW.out.cell (p := ⟨gb, ob + j * 3, none⟩) lb).trans d.1
        have c1 := (HW.out.cell (p := ⟨ga, oa + j * 3 + 1, none⟩) la).trans c.2.1
        have d1 := (HW.out.cell (p := ⟨gb, ob + j * 3 + 1, none⟩) lb).trans d.2.1
        have c2 := (HW.out.cell (p := ⟨ga, oa + j * 3 + 2, none⟩) la).trans c.2.2
        have d2 := (HW.out.cell (p := ⟨gb, ob + j * 3 + 2, none⟩) lb).trans d.2.2
        clear c d
        generalize l[j].1 = x at *
        generalize l[j].2.1 = y at *
        generalize l[j].2.2 = z at *
        have i0 : (0 : Int) ≤ (j : Int) := by omega
        have i1 : (j : Int) < (n : Int) := by omega
        have HC : Hid (wr.cell? ⟨ga, oa + j * 3, none⟩ = some (.int .i64 x) ∧ wr.cell? ⟨ga, oa + j * 3 + 1, none⟩ = some (.int .i64 y) ∧ wr.cell? ⟨ga, oa + j * 3 + 2, none⟩ = some (.int .i64 z) ∧ wr.cell? ⟨gb, ob + j * 3, none⟩ = some (.int .i64 x) ∧ wr.cell? ⟨gb, ob + j * 3 + 1, none⟩ = some (.int .i64 y) ∧ wr.cell? ⟨gb, ob + j * 3 + 2, none⟩ = some (.int .i64 z) ∧ Below w.heap.size w wr) := ⟨c0, c1, c2, d0, d1, d2, HW.out⟩
        clear c0 d0 c1 d1 c2 d2 hjl
        go_wp2
        go_region_held3 (fun w' => w'.cell? ⟨ga, oa + j * 3, none⟩ = some (.int .i64 x) ∧ w'.cell? ⟨ga, oa + j * 3 + 1, none⟩ = some (.int .i64 y) ∧ w'.cell? ⟨ga, oa + j * 3 + 2, none⟩ = some (.int .i64 z) ∧ w'.cell? ⟨gb, ob + j * 3, none⟩ = some (.int .i64 x) ∧ w'.cell? ⟨gb, ob + j * 3 + 1, none⟩ = some (.int .i64 y) ∧ w'.cell? ⟨gb, ob + j * 3 + 2, none⟩ = some (.int .i64 z) ∧ Below w.heap.size w w') (first | (refine keepY (by assumption) ?_; assumption) | (exact ⟨HC.out.1, HC.out.2.1, HC.out.2.2.1, HC.out.2.2.2.1, HC.out.2.2.2.2.1, HC.out.2.2.2.2.2.1, HC.out.2.2.2.2.2.2.drew⟩)) (first | (go_at_call 48; refine (eqY x y z _).mono ?_; rintro e w2 ⟨rfl, hb2⟩))
        rename_i HH
        have HW2 : Hid (Below w.heap.size w w2) := HH.2.2.2.2.2.2
        clear HH hb2 HC HW
        go_wp2
        go_roundg (gk - 1)
        case measure => omega
        case rel => exact ⟨j + 1, by omega, by go_num, HW2⟩
      · go_wp2
        go_ret
        exact ⟨rfl, HW.out⟩
  · obtain rfl : n = 0 := by omega
    clear ha hb
    go_enter Tryd.func26, Tryd.ntmps26
    go_wp2
    go_rounds 1
    go_ret
    exact ⟨rfl, Below.refl _ _⟩
end Go.Proofs.YtckeffccoghgeaaDoor
