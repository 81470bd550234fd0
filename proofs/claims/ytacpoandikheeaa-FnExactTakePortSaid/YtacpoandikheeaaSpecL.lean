/-
  The specification's copy of a line.
-/
import Derived.Test.YtacpoandikheeaaAppM
import Derived.Test.YtacpoandikheeaaPortI
namespace Go.Proofs.Ytacpoandikheeaa
open Go.RowKit Go.PlainAid
set_option linter.unusedVariables false

set_option maxRecDepth 100000 in
set_option maxHeartbeats 1000000 in
theorem copyLS (a : Option Addr) (l : List (Int × Int)) (n cap : Nat) (hl : l.length = n) (hn : n ≤ 1048576) (hq : a = none → n = 0 ∧ cap = 0) (w : World) (hr : RdR w a l) :
    Calls Try.prog 24 #[.agg #[.slice a n cap]] w fun e w' => ∃ g c, e = .returned (.agg #[.slice (some ⟨g, 0, none⟩) n c]) ∧ OwnG w' (w.heap.size + 2) g n c l ∧ Below w.heap.size w w' := by
  have HR : Hid (RdR w a l) := hr
  have HL : Hid (l.length = n) := hl
  have HQ : Hid (a = none → n = 0 ∧ cap = 0) := hq
  have HB3 : Hid (Below w.heap.size w (((w.alloc (.cells #[.slice a n cap] 30)).alloc (.cells #[.slice none 0 0] 30)).alloc (.cells #[] 52))) := al3_b w _ _ _
  have HO3 : Hid (OwnG (((w.alloc (.cells #[.slice a n cap] 30)).alloc (.cells #[.slice none 0 0] 30)).alloc (.cells #[] 52)) (w.heap.size + 2) (w.heap.size + 1 + 1) 0 0 []) := by
    have := ownG_empty ((w.alloc (.cells #[.slice a n cap] 30)).alloc (.cells #[.slice none 0 0] 30)) (w.heap.size + 2) (by simp)
    simpa [Hid] using this
  have HZ3 : Hid (_ = _) := al3_2 w (.cells #[.slice a n cap] 30) (.cells #[.slice none 0 0] 30) (.cells #[] 52)
  clear hr hl hq
  go_enter Try.func24, Try.ntmps24
  go_wp2_with (at_builtin; refine listM rfl _ _ rfl (w.heap.size + 2) (w.heap.size + 1 + 1) 0 0 [] a n cap l rfl rfl HO3.out HL.out HQ.out (HR.out.keep HB3.out (Nat.le_refl _)) (by omega) (by simp) ?_)
  intro g' c' w5 hown5 hgrow
  have HW5 : Hid (Below w.heap.size w w5) := HB3.out.grown hgrow (by simp; omega) (fun k hk => by cases hk; omega)
  have HZ : Hid (_ = _) := grown_row hgrow HZ3.out (fun e => by have := Option.some.inj e; omega)
  have HO : Hid (OwnG w5 (w.heap.size + 2) g' n c' l) := hown5
  have c4 := row1_cells HZ.out
  clear hown5 hgrow HR HL HQ HB3 HO3 HZ3
  go_wp2
  refine bodyPost_ret (v := .agg #[.slice (some ⟨g', 0, none⟩) n c']) (by simp [results, Try.results24, go_sem, c4]) rfl ⟨_, _, rfl, ?_, ?_⟩
  · exact HO.out.put HZ.out (by decide)
  · exact HW5.out.setCell (by simp) _
end Go.Proofs.Ytacpoandikheeaa
