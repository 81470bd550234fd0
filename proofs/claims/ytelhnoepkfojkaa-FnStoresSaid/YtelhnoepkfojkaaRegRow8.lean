/-
  Lists of regions that lie in blocks of their own.
-/
import Derived.Test.YtelhnoepkfojkaaRegs28
namespace Go.Proofs.Ytelhnoepkfojkaa
open Go.RowKit Go.PlainAid
set_option linter.unusedVariables false

def regsV : List (Int × Int) → List Value
  | [] => []
  | r :: t => .int .i64 r.1 :: .int .i64 r.2 :: regsV t
theorem regsV_len : ∀ rl : List (Int × Int), (regsV rl).length = rl.length * 2
  | [] => rfl
  | r :: t => by simp [regsV, regsV_len t]; omega
theorem regsV_append : ∀ x y : List (Int × Int), regsV (x ++ y) = regsV x ++ regsV y
  | [], y => rfl
  | r :: t, y => by simp [regsV, regsV_append t y]
theorem regsV_at : ∀ (rl : List (Int × Int)) (j : Nat) (h : j < rl.length), (regsV rl)[j * 2]? = some (.int .i64 rl[j].1) ∧ (regsV rl)[j * 2 + 1]? = some (.int .i64 rl[j].2)
  | [], j, h => by simp at h
  | r :: t, 0, h => by simp [regsV]
  | r :: t, j + 1, h => by
    have := regsV_at t j (by simpa using h)
    rw [show (j + 1) * 2 = j * 2 + 1 + 1 by omega]
    simpa [regsV] using this
theorem regsV_set : ∀ (rl : List (Int × Int)) (j : Nat) (f s : Int), ((regsV rl).set (j * 2) (.int .i64 f)).set (j * 2 + 1) (.int .i64 s) = regsV (rl.set j (f, s))
  | [], j, f, s => by simp [regsV]
  | r :: t, 0, f, s => by simp [regsV]
  | r :: t, j + 1, f, s => by
    have := regsV_set t j f s
    rw [show (j + 1) * 2 = j * 2 + 1 + 1 by omega]
    simpa [regsV] using this
theorem regsV_one : ∀ rl : List (Int × Int), ∀ v ∈ regsV rl, v.oneCell' = true
  | [], v, h => by cases h
  | r :: t, v, h => by
    rcases List.mem_cons.1 h with rfl | h
    · rfl
    · rcases List.mem_cons.1 h with rfl | h
      · rfl
      · exact regsV_one t v h

/-- a block that is a list of regions, whole -/
def RowR (w : World) (g : Nat) (rl : List (Int × Int)) : Prop := w.heap[g]? = some (.cells (regsV rl).toArray 31 (0, 0))
theorem RowR.lt {w : World} {g : Nat} {rl : List (Int × Int)} (h : RowR w g rl) : g < w.heap.size := row_lt h
theorem RowR.on {w w' : World} {g : Nat} {rl : List (Int × Int)} (h : RowR w g rl) (hb : Below w.heap.size w w') : RowR w' g rl := row_after h hb (row_lt h)
theorem RowR.cell {w : World} {g : Nat} {rl : List (Int × Int)} (h : RowR w g rl) (j : Nat) (hj : j < rl.length) : w.cell? ⟨g, j * 2, none⟩ = some (.int .i64 rl[j].1) ∧ w.cell? ⟨g, j * 2 + 1, none⟩ = some (.int .i64 rl[j].2) := by
  have := regsV_at rl j hj
  rw [cell_of_row w g (j * 2) _ _ (0, 0) h, cell_of_row w g (j * 2 + 1) _ _ (0, 0) h]
  simpa using this
theorem RowR.free {w : World} {g : Nat} {rl : List (Int × Int)} (h : RowR w g rl) (j : Nat) : w.frozen? ⟨g, j, none⟩ = false := frozen_of_row w g j _ _ h
theorem RowR.rd {w : World} {g : Nat} {rl : List (Int × Int)} (h : RowR w g rl) : RdR w (some ⟨g, 0, none⟩) rl := fun _ => ⟨g, 0, rfl, fun j hj => by rw [Nat.zero_add]; exact h.cell j hj⟩
theorem RowR.set {w : World} {g : Nat} {rl : List (Int × Int)} (h : RowR w g rl) (j : Nat) (f s : Int) : RowR ((w.setCell ⟨g, j * 2, none⟩ (.int .i64 f)).setCell ⟨g, j * 2 + 1, none⟩ (.int .i64 s)) g (rl.set j (f, s)) := by
  unfold RowR at h ⊢
  have h1 := heap_setCell_same w g (j * 2) _ _ (.int .i64 f) h
  rw [heap_setCell_same _ g (j * 2 + 1) _ _ (.int .i64 s) h1, ← regsV_set]
  simp

theorem infoR : (Try.prog.info? 31).map (fun i => (i.zero, i.size, i.bytes)) = some (some (.agg #[.int .i64 0, .int .i64 0]), 2, 16) := by kernel_rfl
theorem regsV_zero (n : Nat) : madeCells #[.int .i64 0, .int .i64 0] (n * 2) = (regsV (List.replicate n (0, 0))).toArray := by
  apply Array.ext
  · simp [madeCells, regsV_len]
  · intro j h1 h2
    have hj : j < n * 2 := by simpa [madeCells] using h1
    have h0 : j / 2 < n := by omega
    have hr := regsV_at (List.replicate n ((0, 0) : Int × Int)) (j / 2) (by simpa using h0)
    have hz : (regsV (List.replicate n ((0, 0) : Int × Int)))[j]? = some (.int .i64 0) := by
      rcases Nat.mod_two_eq_zero_or_one j with e | e
      · have := hr.1
        rw [show j / 2 * 2 = j by omega] at this
        simpa using this
      · have := hr.2
        rw [show j / 2 * 2 + 1 = j by omega] at this
        simpa using this
    have hl : (madeCells #[Value.int .i64 0, .int .i64 0] (n * 2))[j] = .int .i64 0 := by
      rcases Nat.mod_two_eq_zero_or_one j with e | e <;> simp [madeCells, e]
    rw [hl]
    have hj2 : j < (regsV (List.replicate n ((0, 0) : Int × Int))).length := by simpa using h2
    rw [List.getElem?_eq_getElem hj2] at hz
    simpa using (Option.some.inj hz).symm

theorem makeR (n : Nat) (hn : n ≤ 1048576) (w : World) : (Instr.makeSlice 44 (.int .i64 n) (.int .i64 n)).run Try.prog w = .ok (.slice (some ⟨w.heap.size, 0, none⟩) n n) (w.alloc (.cells (regsV (List.replicate n (0, 0))).toArray 31)) := by
  obtain ⟨i0, hi, hz0, hz1, hz2⟩ := info_parts infoR
  have h := run_make (P := Try.prog) w 44 31 i0 _ Try.underlying44 hi hz0 .i64 .i64 n n (by omega) (Int.le_refl _) (by rw [hz2]; omega) (by omega)
  rw [hz1, Int.toNat_natCast, show (Value.agg #[.int .i64 0, .int .i64 0]).cells = #[.int .i64 0, .int .i64 0] from rfl, regsV_zero] at h
  exact h
/-- an owned list of regions, read -/
theorem own_rdR {w : World} {B n : Nat} {v : Value} {rl : List (Int × Int)} (h : w.ownsRow B 31 2 v n (regsV rl)) : ∃ a cap, v = .slice a n cap ∧ n ≤ cap ∧ rl.length = n ∧ RdR w a rl := by
  have h' := h
  have hl : rl.length = n := by have := h.1; rw [regsV_len] at this; omega
  rcases h.2 with ⟨rfl, e⟩ | ⟨g, cap, cur, rfl, hg, hh, hnc, hcp, hcs, htake⟩
  · exact ⟨none, 0, by rw [e], by omega, hl, fun h0 => by omega⟩
  · refine ⟨_, cap, rfl, hnc, hl, fun _ => ⟨g, 0, rfl, fun j hj => ?_⟩⟩
    have hc := h'.cells rfl
    have ha := regsV_at rl j hj
    have h1 := hc _ _ ha.1
    have h2 := hc _ _ ha.2
    rw [add_at] at h1 h2
    exact ⟨h1, by rw [show 0 + j * 2 + 1 = 0 + (j * 2 + 1) by omega]; exact h2⟩
end Go.Proofs.Ytelhnoepkfojkaa
