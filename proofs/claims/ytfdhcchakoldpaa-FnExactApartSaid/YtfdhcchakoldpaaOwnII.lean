/-
  Lists of instructions that a call owns; the laws' own helpers over them: marking, asking, comparing.
-/
import Derived.Test.YtfdhcchakoldpaaCodeI
namespace Go.Proofs.Ytfdhcchakoldpaa.I
open Go.RowKit Go.PlainAid
set_option linter.unusedVariables false

/-- a list of instructions that is owned from block B on -/
def OwnI (w : World) (B : Nat) (v : Value) (rl : List (Int × Int)) : Prop := w.ownsRow B 178 2 v rl.length (regsV rl)
theorem OwnI.rd {w : World} {B : Nat} {v : Value} {rl : List (Int × Int)} (h : OwnI w B v rl) : ∃ a cap, v = .slice a rl.length cap ∧ RdR w a rl := by
  obtain ⟨a, cap, hv, _, _, hr⟩ := own_rdR h
  exact ⟨a, cap, hv, hr⟩
theorem OwnI.on {w w' : World} {B : Nat} {v : Value} {rl : List (Int × Int)} (h : OwnI w B v rl) (hb : Below w.heap.size w w') : OwnI w' B v rl := own_keep h hb (own_lt h)
theorem OwnI.keep {w w' : World} {B C : Nat} {v : Value} {rl : List (Int × Int)} (h : OwnI w B v rl) (hb : Below C w w') (hC : ∀ g, v.ownBlock = some g → g < C) : OwnI w' B v rl := own_keep h hb hC
theorem OwnI.mono {w : World} {B C : Nat} {v : Value} {rl : List (Int × Int)} (h : OwnI w B v rl) (hC : C ≤ B) : OwnI w C v rl := own_mono h hC
theorem ownI_nil (w : World) (B : Nat) : OwnI w B (.slice none 0 0) [] := World.ownsRow_nil _ _ _ _
theorem ownI_empty (w : World) : OwnI (w.alloc (.cells #[] 178)) w.heap.size (.slice (some ⟨w.heap.size, 0, none⟩) 0 0) [] := own_emptyR w w.heap.size (Nat.le_refl _)
theorem RdR.on {w w' : World} {a : Option Addr} {rl : List (Int × Int)} (h : RdR w a rl) (hb : Below w.heap.size w w') : RdR w' a rl := h.keep hb (Nat.le_refl _)

/-- n marks from k on, two each -/
def marksP (k : Nat) : Nat → List (Int × Int)
  | 0 => []
  | n + 1 => ((k : Int), (k : Int) + 1) :: marksP (k + 2) n
theorem marksP_len : ∀ (n k : Nat), (marksP k n).length = n
  | 0, _ => rfl
  | n + 1, k => by simp [marksP, marksP_len n]
theorem marksP_snoc : ∀ (j k : Nat), marksP k (j + 1) = marksP k j ++ [(((k : Int) + 2 * (j : Int)), ((k : Int) + 2 * (j : Int)) + 1)]
  | 0, k => by simp [marksP]
  | j + 1, k => by
    rw [marksP, marksP_snoc j (k + 2), marksP, List.cons_append, show ((k + 2 : Nat) : Int) + 2 * (j : Int) = (k : Int) + 2 * ((j + 1 : Nat) : Int) by omega]
theorem marksP_at : ∀ (n k j : Nat) (h : j < (marksP k n).length), (marksP k n)[j] = (((k : Int) + 2 * (j : Int)), ((k : Int) + 2 * (j : Int)) + 1)
  | 0, k, j, h => by simp [marksP] at h
  | n + 1, k, 0, h => by simp [marksP]
  | n + 1, k, j + 1, h => by
    have h' : j < (marksP (k + 2) n).length := by simpa [marksP] using h
    have := marksP_at n (k + 2) j h'
    simp only [marksP, List.getElem_cons_succ]
    rw [this, show ((k + 2 : Nat) : Int) + 2 * (j : Int) = (k : Int) + 2 * ((j + 1 : Nat) : Int) by omega]
def mixedP (l : List (Int × Int)) (k j : Nat) : List (Int × Int) := marksP k j ++ l.drop j
theorem mixedP_len {l : List (Int × Int)} {k j : Nat} (h : j ≤ l.length) : (mixedP l k j).length = l.length := by
  unfold mixedP; rw [List.length_append, marksP_len, List.length_drop]; omega
theorem mixedP_set {l : List (Int × Int)} {k j : Nat} (h : j < l.length) : (mixedP l k j).set j (((k : Int) + 2 * (j : Int)), ((k : Int) + 2 * (j : Int)) + 1) = mixedP l k (j + 1) := by
  unfold mixedP
  rw [List.set_append_right _ _ (by rw [marksP_len]; omega), marksP_len, Nat.sub_self, List.drop_eq_getElem_cons h, List.set_cons_zero, marksP_snoc]
  simp
theorem mixedP_all (l : List (Int × Int)) (k : Nat) : mixedP l k l.length = marksP k l.length := by unfold mixedP; simp

end Go.Proofs.Ytfdhcchakoldpaa.I
