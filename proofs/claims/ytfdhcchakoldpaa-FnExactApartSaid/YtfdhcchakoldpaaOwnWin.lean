/-
  Lists of windows that a call owns; the laws' own helpers over them: marking, asking, comparing.
-/
import Derived.Test.YtfdhcchakoldpaaWin
namespace Go.Proofs.Ytfdhcchakoldpaa
open Go.RowKit Go.PlainAid
set_option linter.unusedVariables false

/-- a list of windows that is owned from block B on -/
def OwnW (w : World) (B : Nat) (v : Value) (rl : List (Int × Int)) : Prop := w.ownsRow B 43 2 v rl.length (regsV rl)
theorem OwnW.rd {w : World} {B : Nat} {v : Value} {rl : List (Int × Int)} (h : OwnW w B v rl) : ∃ a cap, v = .slice a rl.length cap ∧ RdR w a rl := by
  obtain ⟨a, cap, hv, _, _, hr⟩ := own_rdR h
  exact ⟨a, cap, hv, hr⟩
theorem OwnW.on {w w' : World} {B : Nat} {v : Value} {rl : List (Int × Int)} (h : OwnW w B v rl) (hb : Below w.heap.size w w') : OwnW w' B v rl := own_keep h hb (own_lt h)
theorem OwnW.keep {w w' : World} {B C : Nat} {v : Value} {rl : List (Int × Int)} (h : OwnW w B v rl) (hb : Below C w w') (hC : ∀ g, v.ownBlock = some g → g < C) : OwnW w' B v rl := own_keep h hb hC
theorem OwnW.mono {w : World} {B C : Nat} {v : Value} {rl : List (Int × Int)} (h : OwnW w B v rl) (hC : C ≤ B) : OwnW w C v rl := own_mono h hC
theorem ownW_nil (w : World) (B : Nat) : OwnW w B (.slice none 0 0) [] := World.ownsRow_nil _ _ _ _
theorem ownW_empty (w : World) : OwnW (w.alloc (.cells #[] 43)) w.heap.size (.slice (some ⟨w.heap.size, 0, none⟩) 0 0) [] := own_emptyR w w.heap.size (Nat.le_refl _)
theorem RdR.on {w w' : World} {a : Option Addr} {rl : List (Int × Int)} (h : RdR w a rl) (hb : Below w.heap.size w w') : RdR w' a rl := h.keep hb (Nat.le_refl _)

set_option maxRecDepth 100000 in
set_option maxHeartbeats 1000000 in
theorem eqIn (a b : Option Addr) (rl : List (Int × Int)) (n ca cb : Nat) (hl : rl.length = n) (hn : n ≤ 1048576) (w : World) (ha : RdR w a rl) (hb : RdR w b rl) :
    Calls Try.prog 127 #[.slice a n ca, .slice b n cb] w fun e w' => e = .returned (.bool true) ∧ Below w.heap.size w w' := by
  have HL : Hid (rl.length = n) := hl
  clear hl
  by_cases hp : 0 < n
  · obtain ⟨ga, oa, rfl, hca⟩ := ha (by have := HL.out; omega)
    obtain ⟨gb, ob, rfl, hcb⟩ := hb (by have := HL.out; omega)
    have HA : Hid (∀ j (h : j < rl.length), w.cell? ⟨ga, oa + j * 2, none⟩ = some (.int .i64 rl[j].1) ∧ w.cell? ⟨ga, oa + j * 2 + 1, none⟩ = some (.int .i64 rl[j].2)) := hca
    have HB : Hid (∀ j (h : j < rl.length), w.cell? ⟨gb, ob + j * 2, none⟩ = some (.int .i64 rl[j].1) ∧ w.cell? ⟨gb, ob + j * 2 + 1, none⟩ = some (.int .i64 rl[j].2)) := hcb
    have la : ga < w.heap.size := World.block_lt_of_cell? w ⟨ga, oa + 0 * 2, none⟩ (hca 0 (by have := HL.out; omega)).1
    have lb : gb < w.heap.size := World.block_lt_of_cell? w ⟨gb, ob + 0 * 2, none⟩ (hcb 0 (by have := HL.out; omega)).1
    clear ha hb hca hcb
    go_enter Try.func127, Try.ntmps127
    go_wp2
    go_loopg [5] n (fun gk i wr => ∃ j : Nat, j + gk = n ∧ i = .int .i64 j ∧ Hid (Below w.heap.size w wr))
    case atStart => exact ⟨0, by omega, rfl, Below.refl _ _⟩
    case round =>
      obtain ⟨j, hj, rfl, HW⟩ := hrel
      by_cases hlt : j < n
      · have hjl : j < rl.length := by have := HL.out; omega
        have c0 := HA.out j hjl
        have d0 := HB.out j hjl
        have c1 := (HW.out.cell (p := ⟨ga, oa + j * 2, none⟩) la).trans c0.1
        have c2 := (HW.out.cell (p := ⟨ga, oa + j * 2 + 1, none⟩) la).trans c0.2
        have d1 := (HW.out.cell (p := ⟨gb, ob + j * 2, none⟩) lb).trans d0.1
        have d2 := (HW.out.cell (p := ⟨gb, ob + j * 2 + 1, none⟩) lb).trans d0.2
        clear c0 d0
        generalize rl[j].1 = f at *
        generalize rl[j].2 = s at *
        have i0 : (0 : Int) ≤ (j : Int) := by omega
        have i1 : (j : Int) < (n : Int) := by omega
        have HC : Hid (wr.cell? ⟨ga, oa + j * 2, none⟩ = some (.int .i64 f) ∧ wr.cell? ⟨ga, oa + j * 2 + 1, none⟩ = some (.int .i64 s) ∧ wr.cell? ⟨gb, ob + j * 2, none⟩ = some (.int .i64 f) ∧ wr.cell? ⟨gb, ob + j * 2 + 1, none⟩ = some (.int .i64 s) ∧ Below w.heap.size w wr) := ⟨c1, c2, d1, d2, HW.out⟩
        clear c1 c2 d1 d2 hjl
        go_wp2
        go_region_held3 (fun w' => w'.cell? ⟨ga, oa + j * 2, none⟩ = some (.int .i64 f) ∧ w'.cell? ⟨ga, oa + j * 2 + 1, none⟩ = some (.int .i64 s) ∧ w'.cell? ⟨gb, ob + j * 2, none⟩ = some (.int .i64 f) ∧ w'.cell? ⟨gb, ob + j * 2 + 1, none⟩ = some (.int .i64 s) ∧ Below w.heap.size w w') (first | (refine pair_keep (by assumption) ?_; assumption) | (exact ⟨HC.out.1, HC.out.2.1, HC.out.2.2.1, HC.out.2.2.2.1, HC.out.2.2.2.2.drew⟩)) (first | (go_at_call 181; refine (eqR f s _).mono ?_; rintro e w2 ⟨rfl, hb2⟩))
        rename_i HH
        have HW2 : Hid (Below w.heap.size w w2) := HH.2.2.2.2
        clear HH hb2 HC HW
        go_wp2
        go_roundg (gk - 1)
        case measure => omega
        case rel => exact ⟨j + 1, by omega, by go_num, HW2⟩
      · go_wp2
        go_ret
        exact ⟨rfl, HW.out⟩
  · obtain rfl : n = 0 := by omega
    clear ha hb
    go_enter Try.func127, Try.ntmps127
    go_wp2
    go_rounds 1
    go_ret
    exact ⟨rfl, Below.refl _ _⟩

/-- n marks from k on, two each -/
def marksP (k : Nat) : Nat → List (Int × Int)
  | 0 => []
  | n + 1 => ((k : Int), (k : Int) + 1) :: marksP (k + 2) n
theorem marksP_len : ∀ (n k : Nat), (marksP k n).length = n
  | 0, _ => rfl
  | n + 1, k => by simp [marksP, marksP_len n]
theorem marksP_snoc : ∀ (j k : Nat), marksP k (j + 1) = marksP k j ++ [(((k : Int) + 2 * (j : Int)), ((k : Int) + 2 * (j : Int)) + 1)]
  | 0, k => by simp [marksP]
  | j + 1, k => by
    rw [marksP, marksP_snoc j (k + 2), marksP, List.cons_append, show ((k + 2 : Nat) : Int) + 2 * (j : Int) = (k : Int) + 2 * ((j + 1 : Nat) : Int) by omega]
theorem marksP_at : ∀ (n k j : Nat) (h : j < (marksP k n).length), (marksP k n)[j] = (((k : Int) + 2 * (j : Int)), ((k : Int) + 2 * (j : Int)) + 1)
  | 0, k, j, h => by simp [marksP] at h
  | n + 1, k, 0, h => by simp [marksP]
  | n + 1, k, j + 1, h => by
    have h' : j < (marksP (k + 2) n).length := by simpa [marksP] using h
    have := marksP_at n (k + 2) j h'
    simp only [marksP, List.getElem_cons_succ]
    rw [this, show ((k + 2 : Nat) : Int) + 2 * (j : Int) = (k : Int) + 2 * ((j + 1 : Nat) : Int) by omega]
def mixedP (l : List (Int × Int)) (k j : Nat) : List (Int × Int) := marksP k j ++ l.drop j
theorem mixedP_len {l : List (Int × Int)} {k j : Nat} (h : j ≤ l.length) : (mixedP l k j).length = l.length := by
  unfold mixedP; rw [List.length_append, marksP_len, List.length_drop]; omega
theorem mixedP_set {l : List (Int × Int)} {k j : Nat} (h : j < l.length) : (mixedP l k j).set j (((k : Int) + 2 * (j : Int)), ((k : Int) + 2 * (j : Int)) + 1) = mixedP l k (j + 1) := by
  unfold mixedP
  rw [List.set_append_right _ _ (by rw [marksP_len]; omega), marksP_len, Nat.sub_self, List.drop_eq_getElem_cons h, List.set_cons_zero, marksP_snoc]
  simp
theorem mixedP_all (l : List (Int × Int)) (k : Nat) : mixedP l k l.length = marksP k l.length := by unfold mixedP; simp

end Go.Proofs.Ytfdhcchakoldpaa
