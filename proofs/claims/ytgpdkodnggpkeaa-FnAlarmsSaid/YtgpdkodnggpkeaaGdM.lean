/-
  The mathematics of guards: what is let through, what is felt leaves a guard right.
-/
import Derived.Test.YtgpdkodnggpkeaaGd4
namespace Go.Proofs.Ytgpdkodnggpkeaa
open Go.RowKit Go.PlainAid
set_option linter.unusedVariables false

theorem letG_bd {l : List Int} {al : Int} (h : GdR l al) (x : Int) : 0 ≤ letG l x ∧ letG l x ≤ 30 - sumN l ∧ letG l x ≤ 30 := by
  have h1 := sumN_bd h.2.2.1
  have h2 := h.2.2.2
  unfold letG
  omega
theorem sumN_cut {l : List Int} (h : ∀ i (h : i < l.length), 0 ≤ l[i] ∧ l[i] ≤ 30) (m : Nat) : sumN (l.take m) ≤ sumN l := by
  have e : l.take m ++ l.drop m = l := List.take_append_drop m l
  have h1 : 0 ≤ sumN (l.drop m) := (sumN_bd (fun i hi => by
    rw [List.getElem_drop]
    exact h _ (by simp at hi; omega))).1
  have h2 : sumN (l.take m ++ l.drop m) = sumN (l.take m) + sumN (l.drop m) := sumN_app _ _
  rw [e] at h2
  omega
theorem gd_cons {l : List Int} {al v : Int} (h : GdR l al) (hv : 0 ≤ v ∧ v ≤ 30) : ∀ i (h : i < (v :: l).length), 0 ≤ (v :: l)[i] ∧ (v :: l)[i] ≤ 30 := by
  intro i hi
  cases i with
  | zero => exact hv
  | succ i => simpa using h.2.2.1 i (by simpa using hi)
theorem pass_ok {l : List Int} {al : Int} (h : GdR l al) (x : Int) : GdR ((letG l x :: l).take 9) al := by
  have hv := letG_bd h x
  have hc := gd_cons h ⟨hv.1, hv.2.2⟩
  refine ⟨by simp; omega, h.2.1, fun i hi => ?_, ?_⟩
  · rw [List.getElem_take]
    exact hc i (by simp at hi ⊢; omega)
  · have h1 := sumN_cut hc 9
    have h2 : sumN (letG l x :: l) = letG l x + sumN l := rfl
    omega
theorem passL_ok {l : List Int} {al : Int} (h : GdR l al) (b : Bool) (x : Int) : GdR (passL b l x) al := by
  unfold passL
  cases b
  · simpa using h
  · simpa using pass_ok h x
theorem feel_ok {l : List Int} {al : Int} (h : GdR l al) (b : Bool) (x : Int) (s : Bool) : GdR l (feelA b al x s) := by
  refine ⟨h.1, ?_, h.2.2.1, h.2.2.2⟩
  have h1 := h.2.1
  have h2 := orI_bd al x
  unfold feelA
  split
  · rename_i hh
    split
    · exact hh.2
    · exact h2
  · exact h1
theorem gd_new : GdR [] 0 := ⟨by simp, by omega, fun i h => by simp at h, by simp [sumN]⟩
theorem gd_calm {l : List Int} {al : Int} (h : GdR l al) : GdR l 0 := ⟨h.1, by omega, h.2.2.1, h.2.2.2⟩
/-- a list that a guard owns, or none -/
def GOwn (W : World) (B : Nat) (q : Option Addr) (n c : Nat) (l : List Int) : Prop := (q = none ∧ n = 0 ∧ c = 0 ∧ l = []) ∨ ∃ g, q = some ⟨g, 0, none⟩ ∧ OwnN W B g n c l
theorem GOwn.rd {W : World} {B : Nat} {q : Option Addr} {n c : Nat} {l : List Int} (h : GOwn W B q n c l) : Rd W q l := by
  rcases h with ⟨_, _, _, rfl⟩ | ⟨g, rfl, h⟩
  · intro h; simp at h
  · exact h.rd
theorem GOwn.nn {W : World} {B : Nat} {q : Option Addr} {n c : Nat} {l : List Int} (h : GOwn W B q n c l) : q = none → n = 0 ∧ c = 0 := by
  rcases h with ⟨_, h1, h2, _⟩ | ⟨g, rfl, h⟩
  · exact fun _ => ⟨h1, h2⟩
  · intro e; cases e
theorem GOwn.len {W : World} {B : Nat} {q : Option Addr} {n c : Nat} {l : List Int} (h : GOwn W B q n c l) : l.length = n := by
  rcases h with ⟨_, rfl, _, rfl⟩ | ⟨g, rfl, h⟩
  · rfl
  · exact h.len
theorem GOwn.on {W W' : World} {B : Nat} {q : Option Addr} {n c : Nat} {l : List Int} (h : GOwn W B q n c l) (hb : Below W.heap.size W W') : GOwn W' B q n c l := by
  rcases h with h | ⟨g, rfl, h⟩
  · exact .inl h
  · exact .inr ⟨g, rfl, h.on hb⟩
theorem GOwn.grown {W W' : World} {B C : Nat} {q : Option Addr} {n c : Nat} {l : List Int} (h : GOwn W B q n c l) (hg : W.grownBy W' (some C)) (hC : C < B) : GOwn W' B q n c l := by
  rcases h with h | ⟨g, rfl, h⟩
  · exact .inl h
  · exact .inr ⟨g, rfl, h.grown hg (by have := h.ge; omega)⟩
theorem GOwn.far {W W' : World} {B : Nat} {q : Option Addr} {n c : Nat} {l : List Int} (h : GOwn W B q n c l) (hk : ∀ k, B ≤ k → W'.heap[k]? = W.heap[k]?) : GOwn W' B q n c l := by
  rcases h with h | ⟨g, rfl, h⟩
  · exact .inl h
  · exact .inr ⟨g, rfl, own_same h (hk g h.ge)⟩
end Go.Proofs.Ytgpdkodnggpkeaa
