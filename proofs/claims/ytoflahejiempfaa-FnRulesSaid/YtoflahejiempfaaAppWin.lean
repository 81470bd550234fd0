/-
  Appending to lists of windows.
-/
import Derived.Test.YtoflahejiempfaaLineW
import Derived.Maps.AppendAt
import Derived.ArgAppend
namespace Go.Proofs.Ytoflahejiempfaa
open Go.RowKit Go.PlainAid
set_option linter.unusedVariables false

theorem hid {p : Prop} (h : p) : Hid p := h
theorem RdR.cells {w : World} {ad : Addr} {l : List (Int × Int)} (h : RdR w (some ad) l) : ∀ j u, (regsV l)[j]? = some u → w.cell? (ad.add j) = some u := by
  intro j v hv
  have hj : j < l.length * 2 := by
    rcases Nat.lt_or_ge j (l.length * 2) with h' | h'
    · exact h'
    · rw [List.getElem?_eq_none (by rw [regsV_len]; exact h')] at hv; cases hv
  obtain ⟨g, off, ha, hc⟩ := h (by omega)
  cases ha
  have ha := regsV_at l (j / 2) (by omega)
  have hb := hc (j / 2) (by omega)
  rw [add_at]
  rcases Nat.mod_two_eq_zero_or_one j with e | e
  · rw [show j / 2 * 2 = j by omega] at ha hb
    rw [hv] at ha
    rw [hb.1]; exact ha.1.symm
  · have e2 : j / 2 * 2 + 1 = j := by omega
    rw [e2, hv] at ha
    have := hb.2
    rw [show off + j / 2 * 2 + 1 = off + j by omega] at this
    rw [this]; exact ha.2.symm

end Go.Proofs.Ytoflahejiempfaa
