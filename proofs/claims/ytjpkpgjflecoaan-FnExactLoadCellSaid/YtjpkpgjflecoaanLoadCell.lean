/-
  Proved: for every arena, region and place the call of FnExactLoadCell returns true: LoadCell of the program answers as that of the specification (arenas of more than 1048576 cells the law itself lets by), it writes into no argument. No conditions.
-/
import Derived.Test.YtjpkpgjflecoaanRows
import Derived.Test.YtjpkpgjflecoaanOwn
import Derived.Test.YtjpkpgjflecoaanOpen
import Derived.OpenShut
import Derived.ShutString
import Derived.ChangeOld
import Derived.Below
import Derived.OpenVars
import Derived.Deep.DeepHandedRow
namespace Go.Proofs.Ytjpkpgjflecoaan.fnExactLoadCell
open Go.ChangeShapes Go.WideShapes Go.ChangeAt Go.RowKit Go.PlainAid
open Go.ChangeMaps (open_string shut_string)
set_option linter.unusedVariables false

theorem own : ownKnob Try.prog.godebug = none := by kernel_rfl
theorem laidOut : laidOutB Try.prog = true := by kernel_rfl

set_option maxHeartbeats 1000000 in
theorem walk_in (a : Option Addr) (l : List Int) (n cap : Nat) (f s p : Int) (hl : l.length = n) (hn : n ≤ 1048576) (w : World) (hr : Rd w a l) :
    Calls Try.prog 5 #[.agg #[.slice a n cap], .agg #[.int .i64 f, .int .i64 s], .int .i64 p] w fun e w' => e = .returned (.bool true) ∧ Below w.heap.size w w' := by
  have HS0 : Hid (SL w _ a l _ _ _) := sl_start w a l (.slice a n cap) (.int .i64 f) (.int .i64 s) 36 38 hr
  have HL : Hid (l.length = n) := hl
  clear hr hl
  obtain ⟨X, HX⟩ : ∃ X, Hid (ldX l f s p = X) := ⟨_, rfl⟩
  obtain ⟨B, HB⟩ : ∃ B, Hid (ldB n f s p = B) := ⟨_, rfl⟩
  go_enter Try.func5, Try.ntmps5
  go_wp2_with fail
  refine (szA a n cap (by omega) _).mono ?_
  rintro e w1 ⟨rfl, hb1⟩
  rw [if_pos hn]
  have HS1 : Hid (SL w w1 a l (.slice a n cap) (.int .i64 f) (.int .i64 s)) := HS0.out.keep hb1
  clear hb1 HS0
  go_wp2_with fail
  go_region_held3 (fun w' => w'.cell? ⟨w.heap.size, 0, none⟩ = some (.slice a n cap) ∧ w'.cell? ⟨w.heap.size + 1, 0, none⟩ = some (.int .i64 f) ∧ w'.cell? ⟨w.heap.size + 1, 1, none⟩ = some (.int .i64 s) ∧ LL w w' a l) (first | (refine sl_keep (by assumption) ?_; assumption) | (exact sl_drew HS1.out)) (first | (go_at_call 21; refine (toA a l n cap HL.out hn _ ?_).mono ?_; (exact sl_rd (by assumption)); rintro e w2 ⟨g, rfl, hg, hrow, hb2⟩) | (go_at_call 22; refine (toR f s _).mono ?_; rintro e w3 ⟨rfl, hb3⟩) | (go_at_call 20; refine (loadS (some ⟨g, 0, none⟩) l n n f s p HL.out hn _ ?_).mono ?_; (exact (hrow.keep hb3 hrow.lt).rd); rintro e w4 ⟨rfl, hb4⟩))
  rename_i HH
  have HS4 : Hid (SL w w4 a l (.slice a n cap) (.int .i64 f) (.int .i64 s)) := sl_back HH
  clear HH hb2 hb3 hb4 hrow hg HS1
  rw [HX.out, HB.out]
  have k0 := HS4.out.1
  go_wp2_with fail
  refine (toA a l n cap HL.out hn _ (sl_rd HS4.out)).mono ?_
  rintro e w5 ⟨gx, rfl, hgx, hrowx, hb5⟩
  have HS5 : Hid (SX w (w5.alloc (.cells #[.slice (some ⟨gx, 0, none⟩) n n] 24)) a l (.slice a n cap) (.int .i64 f) (.int .i64 s) (.slice (some ⟨gx, 0, none⟩) n n) w5.heap.size gx) := SX.mk' (HS4.out.keep hb5) hrowx (by have := HS4.out.2.2.2.1.size; omega)
  clear k0 HS4 hgx hrowx hb5
  go_wp2_with fail
  go_region_held3 (fun w' => w'.cell? ⟨w5.heap.size, 0, none⟩ = some (.slice (some ⟨gx, 0, none⟩) n n) ∧ w'.cell? ⟨w.heap.size, 0, none⟩ = some (.slice a n cap) ∧ w'.cell? ⟨w.heap.size + 1, 0, none⟩ = some (.int .i64 f) ∧ w'.cell? ⟨w.heap.size + 1, 1, none⟩ = some (.int .i64 s) ∧ LX w w' a l w5.heap.size gx) (first | (refine sx_keep (by assumption) ?_; assumption) | (exact sx_drew HS5.out)) (first | (go_at_call 22; refine (toR f s _).mono ?_; rintro e w6 ⟨rfl, hb6⟩) | (go_at_call 23; refine (loadI (some ⟨gx, 0, none⟩) l n n f s p HL.out hn (Nat.le_refl _) _ ?_).mono ?_; (exact sx_row (by assumption)); rintro e w7 ⟨rfl, hb7⟩))
  rename_i HH
  have HS7 : Hid (SX w w7 a l (.slice a n cap) (.int .i64 f) (.int .i64 s) (.slice (some ⟨gx, 0, none⟩) n n) w5.heap.size gx) := sx_back HH
  clear HH hb6 hb7 HS5
  rw [HX.out, HB.out]
  go_wp2_with fail
  go_region_held3 (fun w' => w'.cell? ⟨w5.heap.size, 0, none⟩ = some (.slice (some ⟨gx, 0, none⟩) n n) ∧ w'.cell? ⟨w.heap.size, 0, none⟩ = some (.slice a n cap) ∧ w'.cell? ⟨w.heap.size + 1, 0, none⟩ = some (.int .i64 f) ∧ w'.cell? ⟨w.heap.size + 1, 1, none⟩ = some (.int .i64 s) ∧ LX w w' a l w5.heap.size gx) (first | (refine sx_keep (by assumption) ?_; assumption) | (exact sx_drew HS7.out)) (first | (go_at_call 21; refine (toA a l n cap HL.out hn _ ?_).mono ?_; (exact sx_rd (by assumption)); rintro e w8 ⟨gt, rfl, hgt, hrowt, hb8⟩) | (go_at_call 11; refine (eqA (some ⟨gx, 0, none⟩) (some ⟨gt, 0, none⟩) l n n n HL.out hn _ ?_ ?_).mono ?_; (exact sx_row (by assumption)); (exact hrowt.rd); rintro e w9 ⟨rfl, hb9⟩))
  rename_i HH
  have HW : Hid (Below w.heap.size w w9) := (sx_back HH).below
  clear HH hb8 hb9 HS7 hrowt hgt
  go_wp2
  go_ret
  exact ⟨rfl, HW.out⟩

theorem walk (a : Option Addr) (len cap : Nat) (z : List Int) (f s p : Int) (w : World) (h : IsRow .i64 w a len cap z) (_ : (Lit.int .i64 f).wf = true) (_ : (Lit.int .i64 s).wf = true) (_ : (Lit.int .i64 p).wf = true) :
    Calls Try.prog 5 #[.agg #[.slice a len cap], .agg #[.int .i64 f, .int .i64 s], .int .i64 p] w fun e w' => e = .returned (.bool true) ∧ Below w.heap.size w w' := by
  obtain ⟨hr, hl, hc, hm⟩ := rd_of_row h
  by_cases hn : len ≤ 1048576
  · exact walk_in a (z.take len) len cap f s p hl hn w hr
  · clear hr hl hc h
    have HW : Hid (Below w.heap.size w ((w.alloc (.cells #[.slice a len cap] 36)).alloc (.cells #[.int .i64 f, .int .i64 s] 38))) := (arena_start w _ _ _ _ _).2.2
    go_enter Try.func5, Try.ntmps5
    go_wp2_with fail
    refine (szA a len cap hm _).mono ?_
    rintro e w1 ⟨rfl, hb1⟩
    have HW1 : Hid (Below w.heap.size w w1) := HW.out.trans (hb1.mono HW.out.size)
    rw [if_neg hn]
    clear hb1 HW
    go_wp2
    go_ret
    exact ⟨rfl, HW1.out⟩

set_option maxRecDepth 100000 in
theorem lifted (os : Os) (started : os.Started) (H : Type) (enc : TypeId × Value → H) :
    ReturnsInHanded {} Try.checked os 5 .any (Rows.fnExactLoadCellSpec.pre6 enc Try.prog Try.f5 Rows.fnExactLoadCellRow.domain false) (Rows.fnExactLoadCellSpec.post enc Try.prog Try.f5 false true false false) := by
  refine returnsInHanded_of_change (C := Try.checked) own started (by kernel_rfl) Try.func5
    (ChangeSpec.witness6 (enc := enc) (C := Try.checked) false ⟨#[], #[.agg #[.slice none 0 0], .agg #[.int .i64 0, .int .i64 0], .int .i64 0], []⟩ 8 (by kernel_rfl) (by kernel_rfl) (by kernel_rfl) (by kernel_rfl)) ?_
  intro W base args ds gs before hval0 hW hcnd _
  have hval : ∀ (j : Nat) t v, Try.f5.params[j]? = some t → args[j]? = some v → Value.okWide Try.prog W .any base t v := hval0
  have hW' := hW
  obtain ⟨p, q, hA0, hV, rfl, hfz, hnd⟩ := hW
  have hA : DataW.TrodAll enc Try.prog W 0 (fun _ => true) true Try.f5.params.toList args.toList ds p := hA0
  rw [Try.params5] at hA hval
  obtain ⟨v0, vs0, d0, ds0, p0, q0, hargs, rfl, rfl, h0, r0⟩ := trodAll_cons hA
  obtain ⟨v1, vs1, d1, ds1, p1, q1, rfl, rfl, rfl, h1, r1⟩ := trodAll_cons r0
  obtain ⟨v2, vs2, d2, ds2, p2, q2, rfl, rfl, rfl, h2, r2⟩ := trodAll_cons r1
  obtain ⟨rfl, rfl, rfl⟩ := trodAll_nil r2
  obtain rfl : args = #[v0, v1, v2] := by cases args; simp_all
  obtain ⟨rfl, rfl⟩ := trodVars_none hV
  have k0 := h0
  have lt0 : ∀ x ∈ p0, x.block < W.heap.size := by obtain ⟨m, hm⟩ := k0; exact DataW.trod_lt m _ _ _ hm
  obtain ⟨a0, len0, cap0, z0, rfl, w0⟩ := open_arena (hval 0 36 v0 rfl rfl) h0
  have k1 := h1
  have lt1 : ∀ x ∈ p1, x.block < W.heap.size := by obtain ⟨m, hm⟩ := k1; exact DataW.trod_lt m _ _ _ hm
  obtain ⟨a1, b1, rfl, wa1, wb1⟩ := open_region (hval 1 38 v1 rfl rfl) h1
  obtain ⟨a2, rfl, rfl, rfl, w2⟩ := open_int Try.underlying3 (hval 2 3 v2 rfl rfl) h2
  clear hA0 hval0
  refine (walk a0 len0 cap0 z0 a1 b1 a2 W w0 wa1 wb1 w2).mono fun e W' ⟨he, bel⟩ => ?_
  subst he
  exact ⟨_, rfl, _, _, _, [], _, [], hW', trodAll_mk1 (shut_bool Try.underlying4 _), (trodAll_cons_mk (Below.trod laidOut (by kernel_rfl) (of_decide_eq_true (by kernel_rfl)) k0 bel lt0) (trodAll_cons_mk (Below.trod laidOut (by kernel_rfl) (of_decide_eq_true (by kernel_rfl)) k1 bel lt1) (trodAll_cons_mk (shut_int Try.underlying3 w2) trodAll_mk0))), rfl, bel.frame _, fun h => by cases h⟩

theorem over : Rows.fnExactLoadCellRow.holds Try.pinned (OpenSpec.ofChange Rows.fnExactLoadCellSpec) :=
  OpenClaim.holds_of_wide 5 Try.f5 rfl rfl rfl rfl rfl rfl rfl ⟨rfl, rfl, rfl, rfl, rfl⟩ rfl rfl rfl rfl rfl (by kernel_rfl) Try.func5 (by kernel_rfl)
    (of_decide_eq_true (by kernel_rfl)) (by unfold Func.isWrapper; first | (rw [if_pos (by decide +kernel)]; kernel_rfl) | (rw [if_neg (by decide +kernel)]; exact ⟨rfl, rfl⟩))
    (fun os started H enc _ => lifted os started H enc)

end Go.Proofs.Ytjpkpgjflecoaan.fnExactLoadCell
namespace Go.Proofs.Ytjpkpgjflecoaan
theorem fnExactLoadCell_holds : Rows.FnExactLoadCellSaid :=
  fnExactLoadCell.over
#print axioms fnExactLoadCell_holds
end Go.Proofs.Ytjpkpgjflecoaan
