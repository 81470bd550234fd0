/-
  The tables of powers of ten and of the names of what is felt, out of the row's list; a world that holds the four listed tables, for the witness.
-/
import Derived.Test.YtckeffccoghgeaaDoorJX
import Derived.Test.YtckeffccoghgeaaDoorJD
import Derived.Test.YtckeffccoghgeaaDoorRows
import Derived.Lib.LaidTab
import Derived.OpenShut
import Derived.OpenVars
namespace Go.Proofs.YtckeffccoghgeaaDoor.J
open Go.ChangeShapes Go.WideShapes Go.ChangeAt Go.RowKit

theorem gNames : Tryd.prog.globalNamed "loop.example/g00200/impl.senseNames" = some 0 := by kernel_rfl
theorem gNamesType : (Tryd.prog.globals[0]?).map (·.type) = some 100 := by kernel_rfl
theorem cellsNames : Tryd.prog.cellsOf 100 = 4 := by kernel_rfl
theorem cellsStr : Tryd.prog.cellsOf 9 = 1 := by kernel_rfl
theorem names_datum : (Rows.laid_loop_example_g00200_impl_senseNames : DataW Unit) = .agg (nmL.map fun s => .lit (.string s.data.toList)) := by kernel_rfl

theorem names_of_cells {w : World} {enc : TypeId × Value → Unit} {base : Nat} {sp : Nat → Bool} {held : Bool} {fuel : Nat} {cs : List Value} {p : List MemPlace}
    (h : DataW.trod enc Tryd.prog w base sp held fuel 100 cs = some (.agg (nmL.map fun s => .lit (.string s.data.toList)), p)) (r : Nat) (hr : r < 4) : cs[r]? = some (.string (nmS r)) := by
  obtain ⟨xs, m, _, hx, _, hl, hat⟩ := DataW.trod_array Tryd.underlying100 h
  have h1 := hat r hr
  rw [cellsStr, Nat.mul_one] at h1
  have hy : xs[r]? = some (xs[r]'(by omega)) := List.getElem?_eq_getElem (by omega)
  rw [hy] at h1
  obtain ⟨s, hs, hxs, _⟩ := DataW.trod_string Tryd.underlying9 h1
  have hd : xs.map (·.1) = nmL.map fun s => (.lit (.string s.data.toList) : DataW Unit) := by
    have := congrArg Prod.fst hx
    simpa using this.symm
  have h2 := congrArg (·[r]?) hd
  have hr' : r < nmL.length := hr
  simp only [List.getElem?_map, hy, hxs, Option.map_some, List.getElem?_eq_getElem hr'] at h2
  have h3 : s.data.toList = (nmL[r]).data.toList := by simpa using h2
  have h4 : s = nmL[r] := by
    apply ByteArray.ext
    exact Array.toList_inj.1 h3
  have h5 := congrArg (·[0]?) hs
  simp [List.getElem?_drop] at h5
  rw [h5, h4]
  simp [nmS, hr']

theorem names_of_var {W : World} {cs : Array Value} (hvar : W.var? Tryd.prog "loop.example/g00200/impl.senseNames" = some cs) (h : ∀ r, r < 4 → cs[r]? = some (.string (nmS r))) : TabS W := fun r hr =>
  (World.var?_cell gNames hvar r).trans (h r hr)

theorem gTab : Tryd.prog.globalNamed "internal/strconv.uint64pow10" = some 2 := by kernel_rfl
/-- the table stays below what is new -/
theorem tab_below {w w' : World} (ht : Tab w) (hb : Below w.heap.size w w') : Tab w' := by
  have hlt : 2 < w.heap.size := by
    rcases Nat.lt_or_ge 2 w.heap.size with h' | h'
    · exact h'
    · unfold Tab Lib.TabIs World.var? at ht
      simp only [gTab, Option.bind_some] at ht
      rw [Array.getElem?_eq_none h'] at ht; simp at ht
  exact var?_below hb gTab hlt ht
/-- both tables -/
def TabH (w : World) : Prop := Tab w ∧ TabS w
theorem tabH_below {w w' : World} (h : TabH w) (hb : Below w.heap.size w w') : TabH w' := ⟨tab_below h.1 hb, tabS_below h.2 hb⟩
theorem gTabType : (Tryd.prog.globals[2]?).map (·.type) = some 116 := by kernel_rfl
theorem cells20 : Tryd.prog.cellsOf 116 = 20 := by kernel_rfl
theorem cells64 : Tryd.prog.cellsOf 109 = 1 := by kernel_rfl
theorem pow10_datum : (Rows.laid_internal_strconv_uint64pow10 : DataW Unit) = Lib.tabData .u64 Lib.pow10Tab := by kernel_rfl

theorem tables_of {W : World} (h : laidMet Tryd.prog [("math/bits.deBruijn32tab", Rows.laid_math_bits_deBruijn32tab), ("math/bits.deBruijn64tab", Rows.laid_math_bits_deBruijn64tab), ("internal/strconv.uint64pow10", Rows.laid_internal_strconv_uint64pow10), ("loop.example/g00200/impl.senseNames", Rows.laid_loop_example_g00200_impl_senseNames)] W) : TabH W := by
  obtain ⟨ps, ⟨g1, t1, c1, f1, p1, q1, _, _, _, _, ⟨g2, t2, c2, f2, p2, q2, _, _, _, _, ⟨g', t', cs, fuel, p, q, hg', ht', hvar, hd, ⟨g4, t4, cs4, fuel4, p4, q4, hg4, ht4, hvar4, hd4, _, _⟩, _⟩, _⟩, _⟩, _⟩ := h
  obtain rfl := Option.some.inj (gTab.symm.trans hg')
  obtain rfl := Option.some.inj (gTabType.symm.trans ht')
  obtain rfl := Option.some.inj (gNames.symm.trans hg4)
  obtain rfl := Option.some.inj (gNamesType.symm.trans ht4)
  rw [pow10_datum] at hd
  rw [names_datum] at hd4
  refine ⟨?_, names_of_var hvar4 (fun r hr => by simpa using names_of_cells hd4 r hr)⟩
  unfold Tab Lib.TabIs
  rw [hvar, ← Lib.cells_of_tab Tryd.underlying116 Tryd.underlying109 cells64 cells20 hd]

def setRow (cs : Array Value) : Obj → Obj
  | .cells _ t frozen => .cells cs t frozen
  | o => o
def layH (w : World) : World :=
  { w with heap := (((w.heap.modify 2 (setRow #[.int .u64 1, .int .u64 10, .int .u64 100, .int .u64 1000, .int .u64 10000, .int .u64 100000, .int .u64 1000000, .int .u64 10000000, .int .u64 100000000, .int .u64 1000000000, .int .u64 10000000000, .int .u64 100000000000, .int .u64 1000000000000, .int .u64 10000000000000, .int .u64 100000000000000, .int .u64 1000000000000000, .int .u64 10000000000000000, .int .u64 100000000000000000, .int .u64 1000000000000000000, .int .u64 10000000000000000000])).modify 3 (setRow #[.int .u8 0, .int .u8 1, .int .u8 28, .int .u8 2, .int .u8 29, .int .u8 14, .int .u8 24, .int .u8 3, .int .u8 30, .int .u8 22, .int .u8 20, .int .u8 15, .int .u8 25, .int .u8 17, .int .u8 4, .int .u8 8, .int .u8 31, .int .u8 27, .int .u8 13, .int .u8 23, .int .u8 21, .int .u8 19, .int .u8 16, .int .u8 7, .int .u8 26, .int .u8 12, .int .u8 18, .int .u8 6, .int .u8 11, .int .u8 5, .int .u8 10, .int .u8 9])).modify 4 (setRow #[.int .u8 0, .int .u8 1, .int .u8 56, .int .u8 2, .int .u8 57, .int .u8 49, .int .u8 28, .int .u8 3, .int .u8 61, .int .u8 58, .int .u8 42, .int .u8 50, .int .u8 38, .int .u8 29, .int .u8 17, .int .u8 4, .int .u8 62, .int .u8 47, .int .u8 59, .int .u8 36, .int .u8 45, .int .u8 43, .int .u8 51, .int .u8 22, .int .u8 53, .int .u8 39, .int .u8 33, .int .u8 30, .int .u8 24, .int .u8 18, .int .u8 12, .int .u8 5, .int .u8 63, .int .u8 55, .int .u8 48, .int .u8 27, .int .u8 60, .int .u8 41, .int .u8 37, .int .u8 16, .int .u8 46, .int .u8 35, .int .u8 44, .int .u8 21, .int .u8 52, .int .u8 32, .int .u8 23, .int .u8 11, .int .u8 54, .int .u8 26, .int .u8 40, .int .u8 15, .int .u8 34, .int .u8 20, .int .u8 31, .int .u8 10, .int .u8 25, .int .u8 14, .int .u8 19, .int .u8 9, .int .u8 13, .int .u8 8, .int .u8 7, .int .u8 6])).modify 0 (setRow (nmL.map Value.string).toArray) }
end Go.Proofs.YtckeffccoghgeaaDoor.J
