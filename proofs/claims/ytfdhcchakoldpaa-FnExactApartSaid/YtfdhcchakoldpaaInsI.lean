/-
  Lists of instructions: in memory, read, copied, compared, come in.
-/
import Derived.Test.YtfdhcchakoldpaaBase
import Derived.Laws.Rows
import Derived.Deep.OwnRows
import Derived.Deep.WholeRow
import Derived.Deep.LoopGhost
import Derived.Deep.SlicePairs
import Derived.OpenShut
namespace Go.Proofs.Ytfdhcchakoldpaa.I
open Go.ChangeShapes Go.WideShapes Go.ChangeAt Go.RowKit Go.PlainAid
set_option linter.unusedVariables false

theorem holdsI (l m n : Int) (b : Bool) (hb : decide (l ≤ n ∧ n ≤ m) = b) (w : World) : Calls Try.prog 160 #[.agg #[.int .i64 l, .int .i64 m], .int .i64 n] w fun e w' => e = .returned (.bool b) ∧ Below w.heap.size w w' := by
  go_enter Try.func160, Try.ntmps160
  by_cases h1 : l ≤ n
  · by_cases h2 : n ≤ m
    · go_wp2
      go_ret
      exact ⟨by rw [← hb, decide_eq_true ⟨h1, h2⟩]; rfl, (Below.refl _ _).alloc (Nat.le_refl _) _⟩
    · go_wp2
      go_ret
      exact ⟨by rw [← hb, decide_eq_false (fun h => by omega)]; rfl, (Below.refl _ _).alloc (Nat.le_refl _) _⟩
  · go_wp2
    go_ret
    exact ⟨by rw [← hb, decide_eq_false (fun h => by omega)]; rfl, (Below.refl _ _).alloc (Nat.le_refl _) _⟩

theorem inS (l m n : Int) (b : Bool) (hb : decide (l ≤ n ∧ n ≤ m) = b) (w : World) : Calls Try.prog 81 #[.int .i64 n, .int .i64 l, .int .i64 m] w fun e w' => e = .returned (.bool b) ∧ w' = w := by
  go_enter Try.func81, Try.ntmps81
  by_cases h1 : l ≤ n
  · by_cases h2 : n ≤ m
    · go_wp2
      go_ret
      exact ⟨by rw [← hb, decide_eq_true ⟨h1, h2⟩]; rfl, rfl⟩
    · go_wp2
      go_ret
      exact ⟨by rw [← hb, decide_eq_false (fun h => by omega)]; rfl, rfl⟩
  · go_wp2
    go_ret
    exact ⟨by rw [← hb, decide_eq_false (fun h => by omega)]; rfl, rfl⟩

theorem heap_new (w : World) (o : Obj) : (w.alloc o).heap[w.heap.size]? = some o := by
  show (w.heap.push _)[w.heap.size]? = _
  simp

theorem row_lt {w : World} {k : Nat} {o : Obj} (h : w.heap[k]? = some o) : k < w.heap.size := by
  rcases Nat.lt_or_ge k w.heap.size with h' | h'
  · exact h'
  · rw [Array.getElem?_eq_none h'] at h; cases h

/-- a block that was laid, behind what only grows -/
theorem row_after {w W' : World} {k B : Nat} {o : Obj} (h : w.heap[k]? = some o) (hb : Below B w W') (hk : k < B) : W'.heap[k]? = some o :=
  (hb.block k hk).trans h

theorem row1_cells {w : World} {k : Nat} {t : TypeId} {x : Value} (h : w.heap[k]? = some (.cells #[x] t)) :
    w.cell? ⟨k, 0, none⟩ = some x ∧ w.frozen? ⟨k, 0, none⟩ = false := by
  refine ⟨?_, ?_⟩ <;> simp [World.cell?, World.frozen?, h]

theorem row2_cells {w : World} {k : Nat} {t : TypeId} {x y : Value} (h : w.heap[k]? = some (.cells #[x, y] t)) :
    w.cell? ⟨k, 0, none⟩ = some x ∧ w.cell? ⟨k, 1, none⟩ = some y ∧ w.frozen? ⟨k, 0, none⟩ = false ∧ w.frozen? ⟨k, 1, none⟩ = false := by
  refine ⟨?_, ?_, ?_, ?_⟩ <;> simp [World.cell?, World.frozen?, h]

theorem add_at (g o j : Nat) : (⟨g, o, none⟩ : Addr).add j = ⟨g, o + j, none⟩ := by
  unfold Addr.add; split <;> simp_all
theorem own_lt {w : World} {B e z n : Nat} {v : Value} {xs : List Value} (h : w.ownsRow B e z v n xs) : ∀ g, v.ownBlock = some g → g < w.heap.size := fun k hk => (h.lt k hk).2

theorem own_ge {w : World} {B e z n : Nat} {v : Value} {xs : List Value} (h : w.ownsRow B e z v n xs) : ∀ g, v.ownBlock = some g → B ≤ g := fun k hk => (h.lt k hk).1

/-- what lies below the line stays owned -/
theorem own_keep {w w' : World} {B C e z n : Nat} {v : Value} {xs : List Value} (h : w.ownsRow B e z v n xs) (hb : Below C w w') (hlt : ∀ g, v.ownBlock = some g → g < C) : w'.ownsRow B e z v n xs := by
  refine ⟨h.1, ?_⟩
  rcases h.2 with h2 | ⟨g, cap, cur, rfl, hg, hh, h3⟩
  · exact .inl h2
  · exact .inr ⟨g, cap, cur, rfl, hg, by rw [hb.block g (hlt g rfl)]; exact hh, h3⟩

theorem own_mono {w : World} {B C e z n : Nat} {v : Value} {xs : List Value} (h : w.ownsRow B e z v n xs) (hC : C ≤ B) : w.ownsRow C e z v n xs := by
  refine ⟨h.1, ?_⟩
  rcases h.2 with h2 | ⟨g, cap, cur, rfl, hg, h3⟩
  · exact .inl h2
  · exact .inr ⟨g, cap, cur, rfl, by omega, h3⟩
theorem cells3 : Try.prog.cellsOf 3 = 1 := by kernel_rfl

theorem undrew {W W' : World} (h : Below W.drew.heap.size W.drew W') : Below W.heap.size W W' := ((Below.refl W.heap.size W).drew).trans h

theorem row_on {w w' : World} {k : Nat} {o : Obj} (h : w.heap[k]? = some o) (hb : Below w.heap.size w w') : w'.heap[k]? = some o := row_after h hb (row_lt h)

theorem bel_on {w W W' : World} {B : Nat} (hB : B ≤ w.heap.size) (h : Below B w W) (hb : Below W.heap.size W W') : Below B w W' := h.trans (hb.mono (Nat.le_trans hB h.size))
/-- a list of regions that is read, wherever it lies -/
def RdR (w : World) (a : Option Addr) (rl : List (Int × Int)) : Prop := 0 < rl.length → ∃ g off, a = some ⟨g, off, none⟩ ∧ ∀ j (h : j < rl.length), w.cell? ⟨g, off + j * 2, none⟩ = some (.int .i64 rl[j].1) ∧ w.cell? ⟨g, off + j * 2 + 1, none⟩ = some (.int .i64 rl[j].2)

theorem RdR.keep {w w' : World} {a : Option Addr} {rl : List (Int × Int)} {B : Nat} (h : RdR w a rl) (hb : Below B w w') (hB : w.heap.size ≤ B) : RdR w' a rl := fun h0 => by
  obtain ⟨g, off, ha, hc⟩ := h h0
  refine ⟨g, off, ha, fun j hj => ?_⟩
  obtain ⟨h1, h2⟩ := hc j hj
  have hlt := Nat.lt_of_lt_of_le (World.block_lt_of_cell? w ⟨g, off + j * 2, none⟩ h1) hB
  exact ⟨(hb.cell (p := ⟨g, off + j * 2, none⟩) hlt).trans h1, (hb.cell (p := ⟨g, off + j * 2 + 1, none⟩) hlt).trans h2⟩
def regsV : List (Int × Int) → List Value
  | [] => []
  | r :: t => .int .i64 r.1 :: .int .i64 r.2 :: regsV t
theorem regsV_len : ∀ rl : List (Int × Int), (regsV rl).length = rl.length * 2
  | [] => rfl
  | r :: t => by simp [regsV, regsV_len t]; omega
theorem regsV_append : ∀ x y : List (Int × Int), regsV (x ++ y) = regsV x ++ regsV y
  | [], y => rfl
  | r :: t, y => by simp [regsV, regsV_append t y]
theorem regsV_at : ∀ (rl : List (Int × Int)) (j : Nat) (h : j < rl.length), (regsV rl)[j * 2]? = some (.int .i64 rl[j].1) ∧ (regsV rl)[j * 2 + 1]? = some (.int .i64 rl[j].2)
  | [], j, h => by simp at h
  | r :: t, 0, h => by simp [regsV]
  | r :: t, j + 1, h => by
    have := regsV_at t j (by simpa using h)
    rw [show (j + 1) * 2 = j * 2 + 1 + 1 by omega]
    simpa [regsV] using this
theorem regsV_set : ∀ (rl : List (Int × Int)) (j : Nat) (f s : Int), ((regsV rl).set (j * 2) (.int .i64 f)).set (j * 2 + 1) (.int .i64 s) = regsV (rl.set j (f, s))
  | [], j, f, s => by simp [regsV]
  | r :: t, 0, f, s => by simp [regsV]
  | r :: t, j + 1, f, s => by
    have := regsV_set t j f s
    rw [show (j + 1) * 2 = j * 2 + 1 + 1 by omega]
    simpa [regsV] using this
theorem regsV_one : ∀ rl : List (Int × Int), ∀ v ∈ regsV rl, v.oneCell' = true
  | [], v, h => by cases h
  | r :: t, v, h => by
    rcases List.mem_cons.1 h with rfl | h
    · rfl
    · rcases List.mem_cons.1 h with rfl | h
      · rfl
      · exact regsV_one t v h
/-- a block that is a list of regions, whole -/
def RowR (w : World) (g : Nat) (rl : List (Int × Int)) : Prop := w.heap[g]? = some (.cells (regsV rl).toArray 178 (0, 0))
theorem RowR.lt {w : World} {g : Nat} {rl : List (Int × Int)} (h : RowR w g rl) : g < w.heap.size := row_lt h
theorem RowR.on {w w' : World} {g : Nat} {rl : List (Int × Int)} (h : RowR w g rl) (hb : Below w.heap.size w w') : RowR w' g rl := row_after h hb (row_lt h)
theorem RowR.cell {w : World} {g : Nat} {rl : List (Int × Int)} (h : RowR w g rl) (j : Nat) (hj : j < rl.length) : w.cell? ⟨g, j * 2, none⟩ = some (.int .i64 rl[j].1) ∧ w.cell? ⟨g, j * 2 + 1, none⟩ = some (.int .i64 rl[j].2) := by
  have := regsV_at rl j hj
  rw [cell_of_row w g (j * 2) _ _ (0, 0) h, cell_of_row w g (j * 2 + 1) _ _ (0, 0) h]
  simpa using this
theorem RowR.free {w : World} {g : Nat} {rl : List (Int × Int)} (h : RowR w g rl) (j : Nat) : w.frozen? ⟨g, j, none⟩ = false := frozen_of_row w g j _ _ h
theorem RowR.rd {w : World} {g : Nat} {rl : List (Int × Int)} (h : RowR w g rl) : RdR w (some ⟨g, 0, none⟩) rl := fun _ => ⟨g, 0, rfl, fun j hj => by rw [Nat.zero_add]; exact h.cell j hj⟩
theorem RowR.set {w : World} {g : Nat} {rl : List (Int × Int)} (h : RowR w g rl) (j : Nat) (f s : Int) : RowR ((w.setCell ⟨g, j * 2, none⟩ (.int .i64 f)).setCell ⟨g, j * 2 + 1, none⟩ (.int .i64 s)) g (rl.set j (f, s)) := by
  unfold RowR at h ⊢
  have h1 := heap_setCell_same w g (j * 2) _ _ (.int .i64 f) h
  rw [heap_setCell_same _ g (j * 2 + 1) _ _ (.int .i64 s) h1, ← regsV_set]
  simp
theorem infoR : (Try.prog.info? 178).map (fun i => (i.zero, i.size, i.bytes)) = some (some (.agg #[.int .i64 0, .int .i64 0]), 2, 16) := by kernel_rfl
theorem regsV_zero (n : Nat) : madeCells #[.int .i64 0, .int .i64 0] (n * 2) = (regsV (List.replicate n (0, 0))).toArray := by
  apply Array.ext
  · simp [madeCells, regsV_len]
  · intro j h1 h2
    have hj : j < n * 2 := by simpa [madeCells] using h1
    have h0 : j / 2 < n := by omega
    have hr := regsV_at (List.replicate n ((0, 0) : Int × Int)) (j / 2) (by simpa using h0)
    have hz : (regsV (List.replicate n ((0, 0) : Int × Int)))[j]? = some (.int .i64 0) := by
      rcases Nat.mod_two_eq_zero_or_one j with e | e
      · have := hr.1
        rw [show j / 2 * 2 = j by omega] at this
        simpa using this
      · have := hr.2
        rw [show j / 2 * 2 + 1 = j by omega] at this
        simpa using this
    have hl : (madeCells #[Value.int .i64 0, .int .i64 0] (n * 2))[j] = .int .i64 0 := by
      rcases Nat.mod_two_eq_zero_or_one j with e | e <;> simp [madeCells, e]
    rw [hl]
    have hj2 : j < (regsV (List.replicate n ((0, 0) : Int × Int))).length := by simpa using h2
    rw [List.getElem?_eq_getElem hj2] at hz
    simpa using (Option.some.inj hz).symm
theorem makeR (n : Nat) (hn : n ≤ 1048576) (w : World) : (Instr.makeSlice 173 (.int .i64 n) (.int .i64 n)).run Try.prog w = .ok (.slice (some ⟨w.heap.size, 0, none⟩) n n) (w.alloc (.cells (regsV (List.replicate n (0, 0))).toArray 178)) := by
  obtain ⟨i0, hi, hz0, hz1, hz2⟩ := info_parts infoR
  have h := run_make (P := Try.prog) w 173 178 i0 _ Try.underlying173 hi hz0 .i64 .i64 n n (by omega) (Int.le_refl _) (by rw [hz2]; omega) (by omega)
  rw [hz1, Int.toNat_natCast, show (Value.agg #[.int .i64 0, .int .i64 0]).cells = #[.int .i64 0, .int .i64 0] from rfl, regsV_zero] at h
  exact h
/-- an owned list of regions, read -/
theorem own_rdR {w : World} {B n : Nat} {v : Value} {rl : List (Int × Int)} (h : w.ownsRow B 178 2 v n (regsV rl)) : ∃ a cap, v = .slice a n cap ∧ n ≤ cap ∧ rl.length = n ∧ RdR w a rl := by
  have h' := h
  have hl : rl.length = n := by have := h.1; rw [regsV_len] at this; omega
  rcases h.2 with ⟨rfl, e⟩ | ⟨g, cap, cur, rfl, hg, hh, hnc, hcp, hcs, htake⟩
  · exact ⟨none, 0, by rw [e], by omega, hl, fun h0 => by omega⟩
  · refine ⟨_, cap, rfl, hnc, hl, fun _ => ⟨g, 0, rfl, fun j hj => ?_⟩⟩
    have hc := h'.cells rfl
    have ha := regsV_at rl j hj
    have h1 := hc _ _ ha.1
    have h2 := hc _ _ ha.2
    rw [add_at] at h1 h2
    exact ⟨h1, by rw [show 0 + j * 2 + 1 = 0 + (j * 2 + 1) by omega]; exact h2⟩
theorem own_gr {w w' : World} {B C e z n : Nat} {v : Value} {xs : List Value} (h : w.ownsRow B e z v n xs) (hg : w.grownBy w' (some C)) (hC : C < B) : w'.ownsRow B e z v n xs :=
  h.kept hg (by
    cases hv : v.ownBlock with
    | none => exact .inl rfl
    | some g => exact .inr (fun e => by cases e; have := own_ge h C hv; omega))

theorem own_emptyR (w : World) (B : Nat) (hB : B ≤ w.heap.size) : (w.alloc (.cells #[] 178)).ownsRow B 178 2 (.slice (some ⟨w.heap.size, 0, none⟩) 0 0) 0 (regsV []) :=
  ⟨rfl, Or.inr ⟨_, 0, #[], rfl, hB, by show (w.heap.push _)[w.heap.size]? = _; simp, Nat.le_refl _, by decide, rfl, rfl⟩⟩

theorem two_cellR (wr : World) (x y : Value) (a : Addr) (ha : a = ⟨wr.heap.size, 0, none⟩) : ∀ j u, [x, y][j]? = some u → (wr.alloc (.cells #[x, y] 178)).cell? (a.add j) = some u := by
  intro j u hj
  subst ha
  match j, hj with
  | 0, hj => simp at hj; subst hj; simp [Addr.add]
  | 1, hj => simp at hj; subst hj; simp [Addr.add]
/-- the first j copied, the rest still 0 -/
def uptoR (l : List (Int × Int)) (n j : Nat) : List (Int × Int) := l.take j ++ List.replicate (n - j) (0, 0)
theorem uptoR_zero (l : List (Int × Int)) (n : Nat) : uptoR l n 0 = List.replicate n (0, 0) := by simp [uptoR]
theorem uptoR_len {l : List (Int × Int)} {n j : Nat} (hl : l.length = n) (h : j ≤ n) : (uptoR l n j).length = n := by simp [uptoR]; omega
theorem uptoR_all {l : List (Int × Int)} {n : Nat} (hl : l.length = n) : uptoR l n n = l := by simp [uptoR]; exact List.take_of_length_le (by omega)
theorem uptoR_set {l : List (Int × Int)} {n j : Nat} (hl : l.length = n) (h : j < n) (hj : j < l.length) : (uptoR l n j).set j l[j] = uptoR l n (j + 1) := by
  have h1 : (l.take j).length = j := by simp; omega
  unfold uptoR
  obtain ⟨m, hm⟩ : ∃ m, n - j = m + 1 := ⟨n - j - 1, by omega⟩
  rw [hm, show n - (j + 1) = m by omega, List.replicate_succ, List.set_append_right _ _ (by omega), h1, Nat.sub_self, List.set_cons_zero, List.take_succ_eq_append_getElem hj, List.append_assoc]
  rfl
theorem pair_keep {w W W' : World} {b c o o' : Nat} {x y x' y' : Value} (hb : Below W.heap.size W W') (h : W.cell? ⟨b, o, none⟩ = some x ∧ W.cell? ⟨b, o + 1, none⟩ = some y ∧ W.cell? ⟨c, o', none⟩ = some x' ∧ W.cell? ⟨c, o' + 1, none⟩ = some y' ∧ Below w.heap.size w W) :
    W'.cell? ⟨b, o, none⟩ = some x ∧ W'.cell? ⟨b, o + 1, none⟩ = some y ∧ W'.cell? ⟨c, o', none⟩ = some x' ∧ W'.cell? ⟨c, o' + 1, none⟩ = some y' ∧ Below w.heap.size w W' := by
  obtain ⟨h1, h2, h3, h4, h5⟩ := h
  have l1 := World.block_lt_of_cell? W ⟨b, o, none⟩ h1
  have l2 := World.block_lt_of_cell? W ⟨c, o', none⟩ h3
  exact ⟨(hb.cell (p := ⟨b, o, none⟩) l1).trans h1, (hb.cell (p := ⟨b, o + 1, none⟩) l1).trans h2, (hb.cell (p := ⟨c, o', none⟩) l2).trans h3, (hb.cell (p := ⟨c, o' + 1, none⟩) l2).trans h4, h5.trans (hb.mono h5.size)⟩
/-- what the walk is told of a list of regions that came in -/
def IsRegs (w : World) (a : Option Addr) (len cap : Nat) (rl : List (Int × Int)) : Prop := rl.length = len ∧ len ≤ cap ∧ len ≤ 9223372036854775807 ∧ RdR w a rl
end Go.Proofs.Ytfdhcchakoldpaa.I
