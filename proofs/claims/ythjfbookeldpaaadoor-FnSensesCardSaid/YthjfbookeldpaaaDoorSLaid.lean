/-
  The table of names, out of the row's list; a world that holds the listed tables, for the witness.
-/
import Derived.Test.YthjfbookeldpaaaDoorSnsN
import Derived.Test.YthjfbookeldpaaaDoorRows
import Derived.Lib.LaidTab
import Derived.OpenShut
namespace Go.Proofs.YthjfbookeldpaaaDoor
open Go.ChangeShapes Go.WideShapes Go.ChangeAt Go.RowKit

theorem gNames : Tryd.prog.globalNamed "loop.example/g00200/impl.senseNames" = some 0 := by kernel_rfl
theorem gNamesType : (Tryd.prog.globals[0]?).map (·.type) = some 49 := by kernel_rfl
theorem cellsNames : Tryd.prog.cellsOf 49 = 4 := by kernel_rfl
theorem cellsStr : Tryd.prog.cellsOf 9 = 1 := by kernel_rfl
theorem names_datum : (Rows.laid_loop_example_g00200_impl_senseNames : DataW Unit) = .agg (nmL.map fun s => .lit (.string s.data.toList)) := by kernel_rfl

theorem names_of_cells {w : World} {enc : TypeId × Value → Unit} {base : Nat} {sp : Nat → Bool} {held : Bool} {fuel : Nat} {cs : List Value} {p : List MemPlace}
    (h : DataW.trod enc Tryd.prog w base sp held fuel 49 cs = some (.agg (nmL.map fun s => .lit (.string s.data.toList)), p)) (r : Nat) (hr : r < 4) : cs[r]? = some (.string (nmS r)) := by
  obtain ⟨xs, m, _, hx, _, hl, hat⟩ := DataW.trod_array Tryd.underlying49 h
  have h1 := hat r hr
  rw [cellsStr, Nat.mul_one] at h1
  have hy : xs[r]? = some (xs[r]'(by omega)) := List.getElem?_eq_getElem (by omega)
  rw [hy] at h1
  obtain ⟨s, hs, hxs, _⟩ := DataW.trod_string Tryd.underlying9 h1
  have hd : xs.map (·.1) = nmL.map fun s => (.lit (.string s.data.toList) : DataW Unit) := by
    have := congrArg Prod.fst hx
    simpa using this.symm
  have h2 := congrArg (·[r]?) hd
  have hr' : r < nmL.length := hr
  simp only [List.getElem?_map, hy, hxs, Option.map_some, List.getElem?_eq_getElem hr'] at h2
  have h3 : s.data.toList = (nmL[r]).data.toList := by simpa using h2
  have h4 : s = nmL[r] := by
    apply ByteArray.ext
    exact Array.toList_inj.1 h3
  have h5 := congrArg (·[0]?) hs
  simp [List.getElem?_drop] at h5
  rw [h5, h4]
  simp [nmS, hr']

theorem names_of_var {W : World} {cs : Array Value} (hvar : W.var? Tryd.prog "loop.example/g00200/impl.senseNames" = some cs) (h : ∀ r, r < 4 → cs[r]? = some (.string (nmS r))) : TabS W := fun r hr =>
  (World.var?_cell gNames hvar r).trans (h r hr)

/-- the table stands alone on the row's list -/
theorem names_of {W : World} (h : laidMet Tryd.prog [("loop.example/g00200/impl.senseNames", Rows.laid_loop_example_g00200_impl_senseNames)] W) : TabS W := by
  obtain ⟨ps, ⟨g', t', cs, fuel, p, q, hg', ht', hvar, hd, _, _⟩, _⟩ := h
  obtain rfl := Option.some.inj (gNames.symm.trans hg')
  obtain rfl := Option.some.inj (gNamesType.symm.trans ht')
  rw [names_datum] at hd
  exact names_of_var hvar (fun r hr => by simpa using names_of_cells hd r hr)

def setRow (cs : Array Value) : Obj → Obj
  | .cells _ t frozen => .cells cs t frozen
  | o => o
/-- a world whose block of names holds them -/
def layN (w : World) : World := { w with heap := w.heap.modify 0 (setRow (nmL.map Value.string).toArray) }
end Go.Proofs.YthjfbookeldpaaaDoor
