/-
  Proved: for every arena and region the call of FnExactCellsOf returns true: CellsOf of the program answers as that of the specification (arenas of more than 1048576 cells the law itself lets by), it writes into no argument, and its answer owns its memory. No conditions.
-/
import Derived.Test.YtelhnoepkfojkaaRows
import Derived.Test.YtelhnoepkfojkaaOwn8
import Derived.Test.YtelhnoepkfojkaaOpen8
import Derived.OpenShut
import Derived.ShutString
import Derived.ChangeOld
import Derived.Below
import Derived.OpenVars
import Derived.Deep.DeepHandedRow
namespace Go.Proofs.Ytelhnoepkfojkaa.fnExactCellsOf
open Go.ChangeShapes Go.WideShapes Go.ChangeAt Go.RowKit Go.PlainAid
open Go.ChangeMaps (open_string shut_string)
set_option linter.unusedVariables false

theorem own : ownKnob Try.prog.godebug = none := by kernel_rfl
theorem laidOut : laidOutB Try.prog = true := by kernel_rfl

set_option maxRecDepth 100000 in
set_option maxHeartbeats 2000000 in
theorem walk_in (a : Option Addr) (l : List Int) (n cap : Nat) (f s : Int) (hl : l.length = n) (hn : n ≤ 1048576) (w : World) (hr : Rd w a l) :
    Calls Try.prog 3 #[.agg #[.slice a n cap], .agg #[.int .i64 f, .int .i64 s]] w fun e w' => e = .returned (.bool true) ∧ Below w.heap.size w w' := by
  have HS0 : Hid (SL w _ a l _ _ _) := sl_start w a l (.slice a n cap) (.int .i64 f) (.int .i64 s) 24 26 hr
  have HL : Hid (l.length = n) := hl
  have HR : Hid (Rd w a l) := hr
  clear hr hl
  obtain ⟨k, HK⟩ : ∃ k, Hid (cutN n f s = k) := ⟨_, rfl⟩
  obtain ⟨E, HE⟩ : ∃ E, Hid (ceL l f s = E) := ⟨_, rfl⟩
  have hkn : k ≤ 1048576 := by have := cutN_le n f s; have := HK.out; omega
  have HEL : Hid (E.length = k) := by have := ceL_len l f s; rw [HL.out, HK.out, HE.out] at this; exact this
  go_enter Try.func3, Try.ntmps3
  go_wp2_with fail
  refine (szA a n cap (by omega) _).mono ?_
  rintro e w1 ⟨rfl, hb1⟩
  rw [if_pos hn]
  have HS1 : Hid (SL w w1 a l (.slice a n cap) (.int .i64 f) (.int .i64 s)) := HS0.out.keep hb1
  clear hb1 HS0
  go_wp2_with fail
  go_region_held3 (fun w' => w'.cell? ⟨w.heap.size, 0, none⟩ = some (.slice a n cap) ∧ w'.cell? ⟨w.heap.size + 1, 0, none⟩ = some (.int .i64 f) ∧ w'.cell? ⟨w.heap.size + 1, 1, none⟩ = some (.int .i64 s) ∧ LL w w' a l) (first | (refine sl_keep (by assumption) ?_; assumption) | (exact sl_drew HS1.out)) (first | (go_at_call 11; refine (toA a l n cap HL.out hn _ ?_).mono ?_; (exact sl_rd (by assumption)); rintro e w2 ⟨g, rfl, hg, hrow, hb2⟩) | (go_at_call 12; refine (toR f s _).mono ?_; rintro e w3 ⟨rfl, hb3⟩) | (go_at_call 10; refine (cellsS (some ⟨g, 0, none⟩) l n n f s HL.out hn _ ?_).mono ?_; (exact (hrow.keep hb3 hrow.lt).rd); rintro e w4 ⟨v0, rfl, hown4, hb4⟩))
  rename_i HH
  have HS4 : Hid (SL w w4 a l (.slice a n cap) (.int .i64 f) (.int .i64 s)) := sl_back HH
  obtain ⟨q, c, hv⟩ := own_shape hown4
  subst hv
  rw [HK.out, HE.out] at hown4
  rw [HK.out]
  have HO4 : Hid (w4.ownsRow _ 3 1 (.slice q k c) k (intsV E)) := hown4
  have HNW : Hid (∀ g, (Value.slice q k c).ownBlock = some g → g < w4.heap.size) := own_lt hown4
  clear HH hb2 hb3 hb4 hrow hg HS1 hown4
  have k0 := HS4.out.1
  go_wp2_with fail
  refine (toA a l n cap HL.out hn _ (sl_rd HS4.out)).mono ?_
  rintro e w5 ⟨gx, rfl, hgx, hrowx, hb5⟩
  have s4 := HS4.out.2.2.2.2.2
  have HS5 : Hid (SX w (w5.alloc (.cells #[.slice (some ⟨gx, 0, none⟩) n n] 29)) a l (.slice a n cap) (.int .i64 f) (.int .i64 s) (.slice (some ⟨gx, 0, none⟩) n n) w5.heap.size gx) := SX.mk' (HS4.out.keep hb5) hrowx (by omega)
  have HO5 : Hid ((w5.alloc (.cells #[.slice (some ⟨gx, 0, none⟩) n n] 29)).ownsRow _ 3 1 (.slice q k c) k (intsV E)) := (own_keep HO4.out hb5 (own_lt HO4.out)).alloc _
  have sx5 := hb5.size
  clear k0 HS4 hrowx hb5 HO4
  go_wp2_with fail
  go_region_held3 (fun w' => w'.cell? ⟨w5.heap.size, 0, none⟩ = some (.slice (some ⟨gx, 0, none⟩) n n) ∧ w'.cell? ⟨w.heap.size, 0, none⟩ = some (.slice a n cap) ∧ w'.cell? ⟨w.heap.size + 1, 0, none⟩ = some (.int .i64 f) ∧ w'.cell? ⟨w.heap.size + 1, 1, none⟩ = some (.int .i64 s) ∧ LX w w' a l w5.heap.size gx) (first | (refine sx_keep (by assumption) ?_; assumption) | (exact sx_drew HS5.out)) (first | (go_at_call 12; refine (toR f s _).mono ?_; rintro e w6 ⟨rfl, hb6⟩) | (go_at_call 13; refine (cellsI (some ⟨gx, 0, none⟩) l n n f s HL.out hn (Nat.le_refl _) _ ?_).mono ?_; (exact sx_row (by assumption)); rintro e w7 ⟨gg, rfl, hgg, hrowg, hb7⟩))
  rename_i HH
  have HS7 : Hid (SX w w7 a l (.slice a n cap) (.int .i64 f) (.int .i64 s) (.slice (some ⟨gx, 0, none⟩) n n) w5.heap.size gx) := sx_back HH
  have h6 : Below (w5.alloc (.cells #[.slice (some ⟨gx, 0, none⟩) n n] 29)).heap.size (w5.alloc (.cells #[.slice (some ⟨gx, 0, none⟩) n n] 29)) w6 := undrew hb6
  have o6 := own_keep HO5.out h6 (own_lt HO5.out)
  have HO7 : Hid (w7.ownsRow _ 3 1 (.slice q k c) k (intsV E)) := own_keep o6 hb7 (own_lt o6)
  have HG7 : Hid (RowAt w7 gg E) := by rw [← HE.out]; exact hrowg
  have s6 := h6.size
  have hgg1 : w5.heap.size < gg := by simp at s6; omega
  have hgx1 : gx < w6.heap.size := (HS5.out.row.keep h6 HS5.out.row.lt).lt
  clear HH hb6 hb7 HS5 h6 o6 hrowg HO5
  rw [HK.out]
  go_wp2_with fail
  refine (eqInts (some ⟨gg, 0, none⟩) q E k k c HEL.out hkn _ HG7.out.rd (own_rd' HO7.out)).mono ?_
  rintro e w8 ⟨rfl, hb8⟩
  have HS8 : Hid (SX w w8 a l (.slice a n cap) (.int .i64 f) (.int .i64 s) (.slice (some ⟨gx, 0, none⟩) n n) w5.heap.size gx) := HS7.out.keep hb8
  have HO8 : Hid (w8.ownsRow _ 3 1 (.slice q k c) k (intsV E)) := own_keep HO7.out hb8 (own_lt HO7.out)
  have HG8 : Hid (RowAt w8 gg E) := HG7.out.keep hb8 HG7.out.lt
  clear hb8 HS7 HO7 HG7
  go_wp2_with fail
  go_region_held3 (fun w' => w'.cell? ⟨w5.heap.size, 0, none⟩ = some (.slice (some ⟨gx, 0, none⟩) n n) ∧ w'.cell? ⟨w.heap.size, 0, none⟩ = some (.slice a n cap) ∧ w'.cell? ⟨w.heap.size + 1, 0, none⟩ = some (.int .i64 f) ∧ w'.cell? ⟨w.heap.size + 1, 1, none⟩ = some (.int .i64 s) ∧ LX w w' a l w5.heap.size gx) (first | (refine sx_keep (by assumption) ?_; assumption) | (exact sx_drew HS8.out)) (first | (go_at_call 11; refine (toA a l n cap HL.out hn _ ?_).mono ?_; (exact sx_rd (by assumption)); rintro e w9 ⟨gt, rfl, hgt, hrowt, hb9⟩) | (go_at_call 15; refine (eqA (some ⟨gx, 0, none⟩) (some ⟨gt, 0, none⟩) l n n n HL.out hn _ ?_ ?_).mono ?_; (exact sx_row (by assumption)); (exact hrowt.rd); rintro e w10 ⟨rfl, hb10⟩))
  rename_i HH
  have HS10 : Hid (SX w w10 a l (.slice a n cap) (.int .i64 f) (.int .i64 s) (.slice (some ⟨gx, 0, none⟩) n n) w5.heap.size gx) := sx_back HH
  have h9 : Below w8.heap.size w8 w9 := undrew hb9
  have o9 := own_keep HO8.out h9 (own_lt HO8.out)
  have HO10 : Hid (w10.ownsRow _ 3 1 (.slice q k c) k (intsV E)) := own_keep o9 hb10 (own_lt o9)
  have g9 := HG8.out.keep h9 HG8.out.lt
  have HG10 : Hid (RowAt w10 gg E) := g9.keep hb10 g9.lt
  clear HH hb9 hb10 h9 o9 g9 HS8 hrowt hgt HO8 HG8
  have k1 := HS10.out.1
  go_wp2_with fail
  refine (markA gx l n 1 1 rfl HL.out hn (by omega) _ HS10.out.row).mono ?_
  rintro e w11 ⟨rfl, _, hg11⟩
  have HS11 : Hid (SL w w11 a l (.slice a n cap) (.int .i64 f) (.int .i64 s)) := HS10.out.sl.grown HR.out hg11 (by omega)
  have HO11 : Hid (w11.ownsRow _ 3 1 (.slice q k c) k (intsV E)) := own_grown HO10.out hg11 (fun g hg => by have := HNW.out g hg; omega)
  have HG11 : Hid (RowAt w11 gg E) := grown_row hg11 HG10.out (by simp; omega)
  clear hg11 k1 HS10 HO10 HG10
  go_wp2_with fail
  refine (eqInts (some ⟨gg, 0, none⟩) q E k k c HEL.out hkn _ HG11.out.rd (own_rd' HO11.out)).mono ?_
  rintro e w12 ⟨rfl, hb12⟩
  have HS12 : Hid (SL w w12 a l (.slice a n cap) (.int .i64 f) (.int .i64 s)) := HS11.out.keep hb12
  have HO12 : Hid (w12.ownsRow _ 3 1 (.slice q k c) k (intsV E)) := own_keep HO11.out hb12 (own_lt HO11.out)
  have HG12 : Hid (RowAt w12 gg E) := HG11.out.keep hb12 HG11.out.lt
  clear hb12 HS11 HO11 HG11
  go_wp2_with fail
  refine (markI' gg E k 1 1 rfl HEL.out hkn (by omega) _ HG12.out).mono ?_
  rintro e w13 ⟨rfl, hr13, hg13⟩
  have HS13 : Hid (SL w w13 a l (.slice a n cap) (.int .i64 f) (.int .i64 s)) := HS12.out.grown HR.out hg13 (by omega)
  have HO13 : Hid (w13.ownsRow _ 3 1 (.slice q k c) k (intsV E)) := own_grown HO12.out hg13 (fun g hg => by have := HNW.out g hg; omega)
  have HG13 : Hid (RowAt w13 gg (marks 1 k)) := hr13
  clear hg13 hr13 HS12 HO12 HG12
  go_wp2_with fail
  refine (heldI' gg k 1 1 rfl hkn (by omega) _ HG13.out).mono ?_
  rintro e w14 ⟨rfl, rfl⟩
  go_wp2_with fail
  go_region_held3 (fun w' => w'.cell? ⟨w.heap.size, 0, none⟩ = some (.slice a n cap) ∧ w'.cell? ⟨w.heap.size + 1, 0, none⟩ = some (.int .i64 f) ∧ w'.cell? ⟨w.heap.size + 1, 1, none⟩ = some (.int .i64 s) ∧ LL w w' a l) (first | (refine sl_keep (by assumption) ?_; assumption) | (exact sl_drew HS13.out)) (first | (go_at_call 11; refine (toA a l n cap HL.out hn _ ?_).mono ?_; (exact sl_rd (by assumption)); rintro e w15 ⟨gy, rfl, hgy, hrowy, hb15⟩) | (go_at_call 12; refine (toR f s _).mono ?_; rintro e w16 ⟨rfl, hb16⟩) | (go_at_call 13; refine (cellsI (some ⟨gy, 0, none⟩) l n n f s HL.out hn (Nat.le_refl _) _ ?_).mono ?_; (exact (hrowy.keep hb16 hrowy.lt).rd); rintro e w17 ⟨gh, rfl, hgh, hrowh, hb17⟩))
  rename_i HH
  have HW17 : Hid (Below w.heap.size w w17) := (sl_back HH).2.2.2.1
  have h15 : Below w14.heap.size w14 w15 := undrew hb15
  have o15 := own_keep HO13.out h15 (own_lt HO13.out)
  have o16 := own_keep o15 hb16 (own_lt o15)
  have HO17 : Hid (w17.ownsRow _ 3 1 (.slice q k c) k (intsV E)) := own_keep o16 hb17 (own_lt o16)
  have g15 := HG13.out.keep h15 HG13.out.lt
  have g16 := g15.keep hb16 g15.lt
  have HG17 : Hid (RowAt w17 gg (marks 1 k)) := g16.keep hb17 g16.lt
  have HH17 : Hid (RowAt w17 gh E) := by rw [← HE.out]; exact hrowh
  clear HH hb15 hb16 hb17 h15 o15 o16 g15 g16 hrowy hrowh hgy hgh HS13 HO13 HG13
  rw [HK.out]
  go_wp2_with fail
  refine (eqInts (some ⟨gh, 0, none⟩) q E k k c HEL.out hkn _ HH17.out.rd (own_rd' HO17.out)).mono ?_
  rintro e w18 ⟨rfl, hb18⟩
  have HW18 : Hid (Below w.heap.size w w18) := HW17.out.trans (hb18.mono HW17.out.size)
  have HG18 : Hid (RowAt w18 gg (marks 1 k)) := HG17.out.keep hb18 HG17.out.lt
  clear hb18 HW17 HO17 HG17 HH17
  go_wp2_with fail
  refine (heldI' gg k 1 1 rfl hkn (by omega) _ HG18.out).mono ?_
  rintro e w19 ⟨rfl, rfl⟩
  go_wp2
  go_ret
  exact ⟨rfl, HW18.out⟩

theorem walk (a : Option Addr) (len cap : Nat) (z : List Int) (f s : Int) (w : World) (h : IsRow .i64 w a len cap z) (_ : (Lit.int .i64 f).wf = true) (_ : (Lit.int .i64 s).wf = true) :
    Calls Try.prog 3 #[.agg #[.slice a len cap], .agg #[.int .i64 f, .int .i64 s]] w fun e w' => e = .returned (.bool true) ∧ Below w.heap.size w w' := by
  obtain ⟨hr, hl, hc, hm⟩ := rd_of_row h
  by_cases hn : len ≤ 1048576
  · exact walk_in a (z.take len) len cap f s hl hn w hr
  · clear hr hl hc h
    have HW : Hid (Below w.heap.size w ((w.alloc (.cells #[.slice a len cap] 24)).alloc (.cells #[.int .i64 f, .int .i64 s] 26))) := (arena_start w _ _ _ _ _).2.2
    go_enter Try.func3, Try.ntmps3
    go_wp2_with fail
    refine (szA a len cap hm _).mono ?_
    rintro e w1 ⟨rfl, hb1⟩
    have HW1 : Hid (Below w.heap.size w w1) := HW.out.trans (hb1.mono HW.out.size)
    rw [if_neg hn]
    clear hb1 HW
    go_wp2
    go_ret
    exact ⟨rfl, HW1.out⟩

set_option maxRecDepth 100000 in
theorem lifted (os : Os) (started : os.Started) (H : Type) (enc : TypeId × Value → H) :
    ReturnsInHanded {} Try.checked os 3 .any (Rows.fnExactCellsOfSpec.pre6 enc Try.prog Try.f3 Rows.fnExactCellsOfRow.domain false) (Rows.fnExactCellsOfSpec.post enc Try.prog Try.f3 false true false false) := by
  refine returnsInHanded_of_change (C := Try.checked) own started (by kernel_rfl) Try.func3
    (ChangeSpec.witness6 (enc := enc) (C := Try.checked) false ⟨#[], #[.agg #[.slice none 0 0], .agg #[.int .i64 0, .int .i64 0]], []⟩ 8 (by kernel_rfl) (by kernel_rfl) (by kernel_rfl) (by kernel_rfl)) ?_
  intro W base args ds gs before hval0 hW hcnd _
  have hval : ∀ (j : Nat) t v, Try.f3.params[j]? = some t → args[j]? = some v → Value.okWide Try.prog W .any base t v := hval0
  have hW' := hW
  obtain ⟨p, q, hA0, hV, rfl, hfz, hnd⟩ := hW
  have hA : DataW.TrodAll enc Try.prog W 0 (fun _ => true) true Try.f3.params.toList args.toList ds p := hA0
  rw [Try.params3] at hA hval
  obtain ⟨v0, vs0, d0, ds0, p0, q0, hargs, rfl, rfl, h0, r0⟩ := trodAll_cons hA
  obtain ⟨v1, vs1, d1, ds1, p1, q1, rfl, rfl, rfl, h1, r1⟩ := trodAll_cons r0
  obtain ⟨rfl, rfl, rfl⟩ := trodAll_nil r1
  obtain rfl : args = #[v0, v1] := by cases args; simp_all
  obtain ⟨rfl, rfl⟩ := trodVars_none hV
  have k0 := h0
  have lt0 : ∀ x ∈ p0, x.block < W.heap.size := by obtain ⟨m, hm⟩ := k0; exact DataW.trod_lt m _ _ _ hm
  obtain ⟨a0, len0, cap0, z0, rfl, w0⟩ := open_arena (hval 0 24 v0 rfl rfl) h0
  have k1 := h1
  have lt1 : ∀ x ∈ p1, x.block < W.heap.size := by obtain ⟨m, hm⟩ := k1; exact DataW.trod_lt m _ _ _ hm
  obtain ⟨a1, b1, rfl, wa1, wb1⟩ := open_region (hval 1 26 v1 rfl rfl) h1
  clear hA0 hval0
  refine (walk a0 len0 cap0 z0 a1 b1 W w0 wa1 wb1).mono fun e W' ⟨he, bel⟩ => ?_
  subst he
  exact ⟨_, rfl, _, _, _, [], _, [], hW', trodAll_mk1 (shut_bool Try.underlying4 _), (trodAll_cons_mk (Below.trod laidOut (by kernel_rfl) (of_decide_eq_true (by kernel_rfl)) k0 bel lt0) (trodAll_cons_mk (Below.trod laidOut (by kernel_rfl) (of_decide_eq_true (by kernel_rfl)) k1 bel lt1) trodAll_mk0)), rfl, bel.frame _, fun h => by cases h⟩

theorem over : Rows.fnExactCellsOfRow.holds Try.pinned (OpenSpec.ofChange Rows.fnExactCellsOfSpec) :=
  OpenClaim.holds_of_wide 3 Try.f3 rfl rfl rfl rfl rfl rfl rfl ⟨rfl, rfl, rfl, rfl, rfl⟩ rfl rfl rfl rfl rfl (by kernel_rfl) Try.func3 (by kernel_rfl)
    (of_decide_eq_true (by kernel_rfl)) (by unfold Func.isWrapper; first | (rw [if_pos (by decide +kernel)]; kernel_rfl) | (rw [if_neg (by decide +kernel)]; exact ⟨rfl, rfl⟩))
    (fun os started H enc _ => lifted os started H enc)

end Go.Proofs.Ytelhnoepkfojkaa.fnExactCellsOf
namespace Go.Proofs.Ytelhnoepkfojkaa
theorem fnExactCellsOf_holds : Rows.FnExactCellsOfSaid :=
  fnExactCellsOf.over
#print axioms fnExactCellsOf_holds
end Go.Proofs.Ytelhnoepkfojkaa
