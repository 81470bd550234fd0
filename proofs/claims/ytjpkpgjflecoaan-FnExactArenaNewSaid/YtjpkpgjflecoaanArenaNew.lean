/-
  Proved: the call of FnExactArenaNew returns true: ArenaNew of the program answers as that of the specification, and its answer is its own memory: what is written into it stays behind a second call. No conditions.
-/
import Derived.Test.YtjpkpgjflecoaanRows
import Derived.Test.YtjpkpgjflecoaanOwn
import Derived.OpenShut
import Derived.ShutString
import Derived.ChangeOld
import Derived.Below
import Derived.OpenVars
import Derived.Deep.DeepHandedRow
namespace Go.Proofs.Ytjpkpgjflecoaan.fnExactArenaNew
open Go.ChangeShapes Go.WideShapes Go.ChangeAt Go.RowKit Go.PlainAid
open Go.ChangeMaps (open_string shut_string)
set_option linter.unusedVariables false

theorem own : ownKnob Try.prog.godebug = none := by kernel_rfl
theorem laidOut : laidOutB Try.prog = true := by kernel_rfl

set_option maxHeartbeats 1000000 in
theorem walk (w : World) :
    Calls Try.prog 3 #[] w fun e w' => e = .returned (.bool true) ∧ Below w.heap.size w w' := by
  go_enter Try.func3, Try.ntmps3
  go_wp2_with fail
  refine (newS _).mono ?_
  rintro e w1 ⟨gw, rfl, hgw, hroww, hb1⟩
  have HB1 : Hid ((w1.alloc (.cells #[.slice (some ⟨gw, 0, none⟩) 64 64] 24)).heap[w1.heap.size]? = _) := heap_new w1 _
  have HW1 : Hid (RowAt (w1.alloc (.cells #[.slice (some ⟨gw, 0, none⟩) 64 64] 24)) gw z64) := (Below.heap_alloc _ _ _ hroww.lt).trans hroww
  have HL1 : Hid (Below w.heap.size w (w1.alloc (.cells #[.slice (some ⟨gw, 0, none⟩) 64 64] 24))) := hb1.alloc hb1.size _
  have lw := hroww.lt
  clear hroww hb1
  go_wp2_with fail
  refine (newI _).mono ?_
  rintro e w2 ⟨gg, rfl, hgg, hrowg, hb2⟩
  have HB2 : Hid ((w2.alloc (.cells #[.slice (some ⟨gg, 0, none⟩) 64 64] 24)).heap[w2.heap.size]? = _) := heap_new w2 _
  have hx := row_after HB1.out hb2 (row_lt HB1.out)
  have HB1b : Hid ((w2.alloc (.cells #[.slice (some ⟨gg, 0, none⟩) 64 64] 24)).heap[w1.heap.size]? = _) := (Below.heap_alloc _ _ _ (row_lt hx)).trans hx
  have hy := HW1.out.keep hb2 HW1.out.lt
  have HW2 : Hid (RowAt (w2.alloc (.cells #[.slice (some ⟨gg, 0, none⟩) 64 64] 24)) gw z64) := (Below.heap_alloc _ _ _ hy.lt).trans hy
  have HG2 : Hid (RowAt (w2.alloc (.cells #[.slice (some ⟨gg, 0, none⟩) 64 64] 24)) gg z64) := (Below.heap_alloc _ _ _ hrowg.lt).trans hrowg
  have hL := HL1.out.trans (hb2.mono HL1.out.size)
  have HL2 : Hid (Below w.heap.size w (w2.alloc (.cells #[.slice (some ⟨gg, 0, none⟩) 64 64] 24))) := hL.alloc hL.size _
  have lg := hrowg.lt
  have lb := row_lt hx
  have hne : gg ≠ gw := by simp at hgg; omega
  have hne1 : gg ≠ w1.heap.size := by simp at hgg; omega
  have hge : w.heap.size ≤ gg := by have := HL1.out.size; omega
  clear hrowg hb2 hx hy hL HB1 HW1 HL1
  have k1 := row1_cells HB1b.out
  have k2 := row1_cells HB2.out
  go_wp2_with fail
  refine (eqA (some ⟨gg, 0, none⟩) (some ⟨gw, 0, none⟩) z64 64 64 64 rfl (by omega) _ HG2.out.rd HW2.out.rd).mono ?_
  rintro e w3 ⟨rfl, hb3⟩
  have HB1c : Hid (_ = _) := row_after HB1b.out hb3 (row_lt HB1b.out)
  have HB2c : Hid (_ = _) := row_after HB2.out hb3 (row_lt HB2.out)
  have HW3 : Hid (RowAt w3 gw z64) := HW2.out.keep hb3 HW2.out.lt
  have HG3 : Hid (RowAt w3 gg z64) := HG2.out.keep hb3 HG2.out.lt
  have HL3 : Hid (Below w.heap.size w w3) := HL2.out.trans (hb3.mono HL2.out.size)
  clear hb3 k1 k2 HB1b HB2 HW2 HG2 HL2
  have k1 := row1_cells HB1c.out
  have k2 := row1_cells HB2c.out
  go_wp2_with fail
  refine (markA gg z64 64 1 1 rfl rfl (by omega) (by omega) _ HG3.out).mono ?_
  rintro e w4 ⟨rfl, hr4, hg4⟩
  have HB1d : Hid (_ = _) := grown_row hg4 HB1c.out (by simp; omega)
  have HB2d : Hid (_ = _) := grown_row hg4 HB2c.out (by simp; omega)
  have HW4 : Hid (RowAt w4 gw z64) := grown_row hg4 HW3.out (by simp; omega)
  have HG4 : Hid (RowAt w4 gg (marks 1 64)) := hr4
  have HL4 : Hid (Below w.heap.size w w4) := HL3.out.grown hg4 HL3.out.size (fun k hk => by cases hk; exact hge)
  clear hg4 hr4 k1 k2 HB1c HB2c HW3 HG3 HL3
  have k1 := row1_cells HB1d.out
  have k2 := row1_cells HB2d.out
  go_wp2_with fail
  refine (heldA gg 64 1 1 rfl (by omega) (by omega) _ HG4.out).mono ?_
  rintro e w5 ⟨rfl, hb5⟩
  have HB1e : Hid (_ = _) := row_after HB1d.out hb5 (row_lt HB1d.out)
  have HB2e : Hid (_ = _) := row_after HB2d.out hb5 (row_lt HB2d.out)
  have HW5 : Hid (RowAt w5 gw z64) := HW4.out.keep hb5 HW4.out.lt
  have HG5 : Hid (RowAt w5 gg (marks 1 64)) := HG4.out.keep hb5 HG4.out.lt
  have HL5 : Hid (Below w.heap.size w w5) := HL4.out.trans (hb5.mono HL4.out.size)
  clear hb5 k1 k2 HB1d HB2d HW4 HG4 HL4
  go_wp2_with fail
  refine (newI _).mono ?_
  rintro e w6 ⟨gh, rfl, hgh, hrowh, hb6⟩
  have HB6 : Hid ((w6.alloc (.cells #[.slice (some ⟨gh, 0, none⟩) 64 64] 24)).heap[w6.heap.size]? = _) := heap_new w6 _
  have hx := row_after HB1e.out hb6 (row_lt HB1e.out)
  have HB1f : Hid ((w6.alloc (.cells #[.slice (some ⟨gh, 0, none⟩) 64 64] 24)).heap[w1.heap.size]? = _) := (Below.heap_alloc _ _ _ (row_lt hx)).trans hx
  have hx2 := row_after HB2e.out hb6 (row_lt HB2e.out)
  have HB2f : Hid ((w6.alloc (.cells #[.slice (some ⟨gh, 0, none⟩) 64 64] 24)).heap[w2.heap.size]? = _) := (Below.heap_alloc _ _ _ (row_lt hx2)).trans hx2
  have hy := HW5.out.keep hb6 HW5.out.lt
  have HW6 : Hid (RowAt (w6.alloc (.cells #[.slice (some ⟨gh, 0, none⟩) 64 64] 24)) gw z64) := (Below.heap_alloc _ _ _ hy.lt).trans hy
  have hz := HG5.out.keep hb6 HG5.out.lt
  have HG6 : Hid (RowAt (w6.alloc (.cells #[.slice (some ⟨gh, 0, none⟩) 64 64] 24)) gg (marks 1 64)) := (Below.heap_alloc _ _ _ hz.lt).trans hz
  have HH6 : Hid (RowAt (w6.alloc (.cells #[.slice (some ⟨gh, 0, none⟩) 64 64] 24)) gh z64) := (Below.heap_alloc _ _ _ hrowh.lt).trans hrowh
  have hL := HL5.out.trans (hb6.mono HL5.out.size)
  have HL6 : Hid (Below w.heap.size w (w6.alloc (.cells #[.slice (some ⟨gh, 0, none⟩) 64 64] 24))) := hL.alloc hL.size _
  clear hrowh hb6 hx hx2 hy hz hL HB1e HB2e HW5 HG5 HL5
  have k1 := row1_cells HB1f.out
  have k2 := row1_cells HB2f.out
  have k6 := row1_cells HB6.out
  go_wp2_with fail
  refine (eqA (some ⟨gh, 0, none⟩) (some ⟨gw, 0, none⟩) z64 64 64 64 rfl (by omega) _ HH6.out.rd HW6.out.rd).mono ?_
  rintro e w7 ⟨rfl, hb7⟩
  have HB2g : Hid (_ = _) := row_after HB2f.out hb7 (row_lt HB2f.out)
  have HG7 : Hid (RowAt w7 gg (marks 1 64)) := HG6.out.keep hb7 HG6.out.lt
  have HL7 : Hid (Below w.heap.size w w7) := HL6.out.trans (hb7.mono HL6.out.size)
  clear hb7 k1 k2 k6 HB1f HB2f HB6 HW6 HG6 HH6 HL6
  have k2 := row1_cells HB2g.out
  go_wp2_with fail
  refine (heldA gg 64 1 1 rfl (by omega) (by omega) _ HG7.out).mono ?_
  rintro e w8 ⟨rfl, hb8⟩
  have HL8 : Hid (Below w.heap.size w w8) := HL7.out.trans (hb8.mono HL7.out.size)
  clear hb8 k2 HB2g HG7 HL7
  go_wp2
  go_ret
  exact ⟨rfl, HL8.out⟩

set_option maxRecDepth 100000 in
theorem lifted (os : Os) (started : os.Started) (H : Type) (enc : TypeId × Value → H) :
    ReturnsInHanded {} Try.checked os 3 .any (Rows.fnExactArenaNewSpec.pre6 enc Try.prog Try.f3 Rows.fnExactArenaNewRow.domain false) (Rows.fnExactArenaNewSpec.post enc Try.prog Try.f3 false true false false) := by
  refine returnsInHanded_of_change (C := Try.checked) own started (by kernel_rfl) Try.func3
    (ChangeSpec.witness6 (enc := enc) (C := Try.checked) false ⟨#[], #[], []⟩ 8 (by kernel_rfl) (by kernel_rfl) (by kernel_rfl) (by kernel_rfl)) ?_
  intro W base args ds gs before hval0 hW hcnd _
  have hval : ∀ (j : Nat) t v, Try.f3.params[j]? = some t → args[j]? = some v → Value.okWide Try.prog W .any base t v := hval0
  have hW' := hW
  obtain ⟨p, q, hA0, hV, rfl, hfz, hnd⟩ := hW
  have hA : DataW.TrodAll enc Try.prog W 0 (fun _ => true) true Try.f3.params.toList args.toList ds p := hA0
  rw [Try.params3] at hA hval
  obtain ⟨hargs, rfl, rfl⟩ := trodAll_nil hA
  obtain rfl : args = #[] := by cases args; simp_all
  obtain ⟨rfl, rfl⟩ := trodVars_none hV
  clear hA0 hval0
  refine (walk W).mono fun e W' ⟨he, bel⟩ => ?_
  subst he
  exact ⟨_, rfl, _, _, _, [], _, [], hW', trodAll_mk1 (shut_bool Try.underlying4 _), trodAll_mk0, rfl, bel.frame _, fun h => by cases h⟩

theorem over : Rows.fnExactArenaNewRow.holds Try.pinned (OpenSpec.ofChange Rows.fnExactArenaNewSpec) :=
  OpenClaim.holds_of_wide 3 Try.f3 rfl rfl rfl rfl rfl rfl rfl ⟨rfl, rfl, rfl, rfl, rfl⟩ rfl rfl rfl rfl rfl (by kernel_rfl) Try.func3 (by kernel_rfl)
    (of_decide_eq_true (by kernel_rfl)) (by unfold Func.isWrapper; first | (rw [if_pos (by decide +kernel)]; kernel_rfl) | (rw [if_neg (by decide +kernel)]; exact ⟨rfl, rfl⟩))
    (fun os started H enc _ => lifted os started H enc)

end Go.Proofs.Ytjpkpgjflecoaan.fnExactArenaNew
namespace Go.Proofs.Ytjpkpgjflecoaan
theorem fnExactArenaNew_holds : Rows.FnExactArenaNewSaid :=
  fnExactArenaNew.over
#print axioms fnExactArenaNew_holds
end Go.Proofs.Ytjpkpgjflecoaan
