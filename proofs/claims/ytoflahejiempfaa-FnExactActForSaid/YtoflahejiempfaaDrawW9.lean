/-
  Drawn plans: the contract of the specification's draw of a plan.
-/
import Derived.Test.YtoflahejiempfaaPlan9
import Derived.Test.YtoflahejiempfaaAppWin
import Derived.Test.YtoflahejiempfaaDraw
import Derived.Test.YtoflahejiempfaaPlaces
namespace Go.Proofs.Ytoflahejiempfaa
open Go.RowKit Go.PlainAid
set_option linter.unusedVariables false

theorem own_shapeW {w : World} {B e z n : Nat} {v : Value} {xs : List Value} (h : w.ownsRow B e z v n xs) : ∃ a cap, v = .slice a n cap := by
  rcases h.2 with ⟨rfl, e⟩ | ⟨g, cap, cur, rfl, _⟩
  · exact ⟨none, 0, by rw [e]⟩
  · exact ⟨_, cap, rfl⟩
theorem drawn_grownW {w W W' : World} {C B : Nat} {a : Option Addr} {len cap : Nat} {v : Value} (h : Drawn w W C B a len cap) (hg : W.grownBy W' v.ownBlock) (hv : ∀ g, v.ownBlock = some g → w.heap.size ≤ g) (hC : C < w.heap.size) (hB : B ≤ w.heap.size) : Drawn w W' C B a len cap :=
  ⟨cur_new (B := B) h.1 hg (fun g e => by have := hv g e; omega), code_below h.2.1 ((Below.refl _ _).grown hg (Nat.le_trans hB h.2.2.size) (fun g e => by have := hv g e; omega)), grown_new h.2.2 hg hv⟩
/-- windows of so many parts -/
def WinsOf (parts : Int) (l : List (Int × Int)) : Prop := ∀ p ∈ l, (1 ≤ p.1 ∧ p.1 ≤ parts) ∧ (1 ≤ p.2 ∧ p.2 ≤ 40)
theorem winsOf_nil (parts : Int) : WinsOf parts [] := fun p h => by cases h
theorem winsOf_add {parts : Int} {l : List (Int × Int)} {f s : Int} (h : WinsOf parts l) (hf : 1 ≤ f ∧ f ≤ parts) (hs : 1 ≤ s ∧ s ≤ 40) : WinsOf parts (l ++ [(f, s)]) := fun p hp => by
  rcases List.mem_append.1 hp with h' | h'
  · exact h p h'
  · simp at h'
    subst h'
    exact ⟨hf, hs⟩
theorem winsOf_plan {parts : Int} {l : List (Int × Int)} (h : WinsOf parts l) (hp : parts ≤ 4) (h1 : 1 ≤ l.length) (h2 : l.length ≤ 12) : PlanR l :=
  ⟨⟨h1, h2⟩, fun i hi => by have := h l[i] (List.getElem_mem hi); exact ⟨⟨this.1.1, by omega⟩, ⟨this.2.1, by omega⟩⟩⟩

end Go.Proofs.Ytoflahejiempfaa
