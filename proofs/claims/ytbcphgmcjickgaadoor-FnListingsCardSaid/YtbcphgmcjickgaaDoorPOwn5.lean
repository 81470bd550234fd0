/-
  Lists of texts that a call owns.
-/
import Derived.Test.YtbcphgmcjickgaaDoorPMath5
import Derived.Test.YtbcphgmcjickgaaDoorIns
namespace Go.Proofs.YtbcphgmcjickgaaDoor
open Go.RowKit Plain Go.PlainAid
set_option linter.unusedVariables false

def strV (l : List ByteArray) : List Value := l.map Value.string

theorem strV_len (l : List ByteArray) : (strV l).length = l.length := List.length_map ..

theorem info9 : (Tryd.prog.info? 9).map (fun i => (i.zero, i.size, i.bytes)) = some (some (.string ⟨#[]⟩), 1, 16) := by kernel_rfl

/-- what an owned list looks like, and its cells -/
theorem own_form {w : World} {B n : Nat} {v : Value} {l : List ByteArray} (h : w.ownsRow B 9 1 v n (strV l)) :
    ∃ a cap, v = .slice a n cap ∧ (0 < n → ∃ g, a = some ⟨g, 0, none⟩ ∧ v.ownBlock = some g ∧ ∀ j x, l[j]? = some x → w.cell? ⟨g, j, none⟩ = some (.string x) ∧ w.frozen? ⟨g, j, none⟩ = false) := by
  have h' := h
  have hl : l.length = n := by have := h.1; rw [strV_len] at this; omega
  rcases h.2 with ⟨rfl, e⟩ | ⟨g, cap, cur, rfl, hg, hh, hnc, hcp, hcs, htake⟩
  · exact ⟨none, 0, by rw [e], fun hp => by omega⟩
  · refine ⟨_, cap, rfl, fun _ => ⟨g, rfl, rfl, fun j x hj => ⟨?_, h'.frozenAt j⟩⟩⟩
    have hlt := (List.getElem?_eq_some_iff.1 hj).1
    have := h'.cellAt j (by omega)
    rw [this]
    simp [strV, hj]
end Go.Proofs.YtbcphgmcjickgaaDoor
