/-
  Proved: the tied card of FnExactShowDevice: at every argument the call returns true: ShowDevice of the program answers as that of the specification (devices whose texts and lists together pass 1048576 the law itself lets by), and the argument reads as before. Conditions: the listed tables hold what their own initialisers lay (the card ties them to the text of the pruned copy of the project and of the library).
-/
import Derived.Test.YtckeffccoghgeaaDoorCards
import Derived.Test.YtckeffccoghgeaaDoorTie
import Derived.Test.YtckeffccoghgeaaDoorEqDv
import Derived.Test.YtckeffccoghgeaaDoorSzDv
import Derived.Test.YtckeffccoghgeaaDoorOpenDv
import Derived.Test.YtckeffccoghgeaaDoorJL
import Derived.Test.YtckeffccoghgeaaDoorShS
import Derived.Test.YtckeffccoghgeaaDoorShI
import Derived.OpenShut
import Derived.OpenVars
import Derived.ChangeVars
import Derived.ShutString
import Derived.ChangeOld
import Derived.Below
import Derived.Deep.DeepHandedRow
import Derived.Lib.LaidTab
namespace Go.Proofs.YtckeffccoghgeaaDoor.fnExactShowDevice
open Go.ChangeShapes Go.WideShapes Go.ChangeAt Go.RowKit Go.PlainAid
open Go.ChangeMaps (open_string shut_string)
set_option linter.unusedVariables false

theorem own : ownKnob Tryd.prog.godebug = none := by kernel_rfl
theorem laidOut : laidOutB Tryd.prog = true := by kernel_rfl
theorem table {W : World} (h : laidMetH Tryd.prog Rows.fnExactShowDeviceRow.laid W) : J.TabH W := J.tables_of h

set_option maxRecDepth 100000 in
set_option maxHeartbeats 4000000 in
theorem walk (p : Pm) (al : Int) (a : Option Addr) (n cap : Nat) (zs : List Int) (m : Mn) (ta : Option Addr) (tn tc : Nat) (t : List Tk3) (rf : Int) (w : World) (hrow : G.IsRow .i64 w a n cap zs) (hms : m.s.length ≤ maxLen) (ht : t.length = tn) (htc : tn ≤ tc) (htn : tn ≤ 9223372036854775807) (hrt : RdY w ta t) (htb : J.TabH w) :
    Calls Tryd.prog 3 #[.agg #[.int .i64 p.s, .int .i64 p.n, .int .i64 p.d, .int .i64 p.r, .int .i64 p.l, .int .i64 p.b, .int .i64 p.g, .int .i64 p.k, .slice a n cap, .int .i64 al, .int .i64 m.a, .bool m.b, .int .i64 m.n, .int .i64 m.d, .string ⟨m.s.toArray⟩, .slice ta tn tc, .int .i64 rf]] w fun e w' => e = .returned (.bool true) ∧ Below w.heap.size w w' := by
  obtain ⟨hr, hl, hc, hnx⟩ := G.rd_of_row hrow
  obtain ⟨l, hlz⟩ : ∃ l, zs.take n = l := ⟨_, rfl⟩
  rw [hlz] at hr hl
  have HTB : Hid (J.TabH w) := htb
  clear htb
  have HL : Hid (l.length = n) := hl
  have HT : Hid (t.length = tn) := ht
  have HRL : Hid (G.Rd w a l) := hr
  have HRT : Hid (RdY w ta t) := hrt
  have hmx : m.s.length ≤ 9223372036854775807 := by unfold maxLen at hms; omega
  obtain ⟨Gk, hG⟩ := G.gd_bool l al
  have HG : Hid (Gk = true ↔ G.GdR l al) := hG
  obtain ⟨P, hP⟩ : ∃ P : Bool, (P = true ↔ p.ok) := ⟨p.okB, p.okB_iff⟩
  have HP : Hid (P = true ↔ p.ok) := hP
  obtain ⟨Mk, hM⟩ : ∃ Mk, okM m = Mk := ⟨_, rfl⟩
  have HM : Hid (okM m = Mk) := hM
  obtain ⟨B, hB⟩ : ∃ B, devB P Gk Mk tn rf = B := ⟨_, rfl⟩
  have HD : Hid (devB P Gk Mk tn rf = B) := hB
  clear hr hl hc hlz hrow hms ht hrt hG hP hM hB
  obtain ⟨W0, hW0⟩ : ∃ W0, (w.alloc (.cells #[.int .i64 p.s, .int .i64 p.n, .int .i64 p.d, .int .i64 p.r, .int .i64 p.l, .int .i64 p.b, .int .i64 p.g, .int .i64 p.k, .slice a n cap, .int .i64 al, .int .i64 m.a, .bool m.b, .int .i64 m.n, .int .i64 m.d, .string ⟨m.s.toArray⟩, .slice ta tn tc, .int .i64 rf] 33)) = W0 := ⟨_, rfl⟩
  have HB0 : Hid (Below w.heap.size w W0) := by rw [← hW0]; exact alM _ _
  have HX0 : Hid (W0.heap[w.heap.size]? = some (.cells #[.int .i64 p.s, .int .i64 p.n, .int .i64 p.d, .int .i64 p.r, .int .i64 p.l, .int .i64 p.b, .int .i64 p.g, .int .i64 p.k, .slice a n cap, .int .i64 al, .int .i64 m.a, .bool m.b, .int .i64 m.n, .int .i64 m.d, .string ⟨m.s.toArray⟩, .slice ta tn tc, .int .i64 rf] 33)) := by rw [← hW0]; exact heap_new w _
  go_enter Tryd.func3, Tryd.ntmps3
  go_upto_region 2 with fail
  (try rw [hW0])
  clear hW0
  go_wp2_with (refine wpList_load_row rfl _ _ rfl w.heap.size rfl _ _ _ _ HX0.out Tryd.underlying33 rfl (by kernel_rfl) ?_)
  go_wp2_with fail
  refine (szDv p a n cap l al m ta tn tc rf hnx hmx htn _).mono ?_
  rintro e w1 ⟨y, rfl, hy, hb⟩
  have HB1 : Hid (Below w.heap.size w w1) := bel_on (Nat.le_refl _) HB0.out hb
  have HX1 : Hid (w1.heap[w.heap.size]? = some (.cells #[.int .i64 p.s, .int .i64 p.n, .int .i64 p.d, .int .i64 p.r, .int .i64 p.l, .int .i64 p.b, .int .i64 p.g, .int .i64 p.k, .slice a n cap, .int .i64 al, .int .i64 m.a, .bool m.b, .int .i64 m.n, .int .i64 m.d, .string ⟨m.s.toArray⟩, .slice ta tn tc, .int .i64 rf] 33)) := row_on HX0.out hb
  clear HB0 HX0 hb
  by_cases hy0 : y < 0
  · go_wp2
    go_ret
    exact ⟨rfl, HB1.out⟩
  have hsz := hy (by omega)
  have hn : n ≤ 1048576 := by omega
  have htn2 : tn ≤ 1048576 := by omega
  clear hy hsz htn hnx
  go_wp2_with (refine wpList_load_row rfl _ _ rfl w.heap.size rfl _ _ _ _ HX1.out Tryd.underlying33 rfl (by kernel_rfl) ?_)
  go_wp2_with fail
  refine (toDv p a n cap l al m ta tn tc t rf HL.out hn HT.out htn2 _ (HRL.out.keep HB1.out (Nat.le_refl _)) (HRT.out.keep HB1.out (Nat.le_refl _))).mono ?_
  rintro e w2 ⟨g2, gt2, rfl, hg2, hgt2, hrow, hrowt, hb⟩
  have HB2 : Hid (Below w.heap.size w w2) := bel_on (Nat.le_refl _) HB1.out hb
  have HX2 : Hid (w2.heap[w.heap.size]? = some (.cells #[.int .i64 p.s, .int .i64 p.n, .int .i64 p.d, .int .i64 p.r, .int .i64 p.l, .int .i64 p.b, .int .i64 p.g, .int .i64 p.k, .slice a n cap, .int .i64 al, .int .i64 m.a, .bool m.b, .int .i64 m.n, .int .i64 m.d, .string ⟨m.s.toArray⟩, .slice ta tn tc, .int .i64 rf] 33)) := row_on HX1.out hb
  have HG22 : Hid (G.RowAt w2 g2 l) := hrow
  have HY22 : Hid (RowY w2 gt2 t) := hrowt
  clear HB1 HX1 hb
  clear hrow hrowt hg2 hgt2
  go_wp2_with fail
  refine (showS p (some ⟨g2, 0, none⟩) n n l al m (some ⟨gt2, 0, none⟩) tn tn rf P Gk Mk HP.out HG.out HM.out B HD.out HL.out (by omega) (by omega) _ HG22.out.rd).mono ?_
  rintro e w3 ⟨rfl, hb⟩
  have HB3 : Hid (Below w.heap.size w w3) := bel_on (Nat.le_refl _) HB2.out hb
  have HX3 : Hid (w3.heap[w.heap.size]? = some (.cells #[.int .i64 p.s, .int .i64 p.n, .int .i64 p.d, .int .i64 p.r, .int .i64 p.l, .int .i64 p.b, .int .i64 p.g, .int .i64 p.k, .slice a n cap, .int .i64 al, .int .i64 m.a, .bool m.b, .int .i64 m.n, .int .i64 m.d, .string ⟨m.s.toArray⟩, .slice ta tn tc, .int .i64 rf] 33)) := row_on HX2.out hb
  have HG23 : Hid (G.RowAt w3 g2 l) := HG22.out.keep hb HG22.out.lt
  have HY23 : Hid (RowY w3 gt2 t) := HY22.out.on hb
  clear HB2 HX2 HG22 HY22 hb
  clear HG23 HY23
  go_wp2_with (refine wpList_load_row rfl _ _ rfl w.heap.size rfl _ _ _ _ HX3.out Tryd.underlying33 rfl (by kernel_rfl) ?_)
  go_wp2_with fail
  refine (toDv p a n cap l al m ta tn tc t rf HL.out hn HT.out htn2 _ (HRL.out.keep HB3.out (Nat.le_refl _)) (HRT.out.keep HB3.out (Nat.le_refl _))).mono ?_
  rintro e w4 ⟨g4, gt4, rfl, hg4, hgt4, hrow, hrowt, hb⟩
  have HB4 : Hid (Below w.heap.size w w4) := bel_on (Nat.le_refl _) HB3.out hb
  have HX4 : Hid (w4.heap[w.heap.size]? = some (.cells #[.int .i64 p.s, .int .i64 p.n, .int .i64 p.d, .int .i64 p.r, .int .i64 p.l, .int .i64 p.b, .int .i64 p.g, .int .i64 p.k, .slice a n cap, .int .i64 al, .int .i64 m.a, .bool m.b, .int .i64 m.n, .int .i64 m.d, .string ⟨m.s.toArray⟩, .slice ta tn tc, .int .i64 rf] 33)) := row_on HX3.out hb
  have HG44 : Hid (G.RowAt w4 g4 l) := hrow
  have HY44 : Hid (RowY w4 gt4 t) := hrowt
  clear HB3 HX3 hb
  clear hrow hrowt
  have hx4 : w.heap.size < w4.heap.size := row_lt HX4.out
  obtain ⟨b4, hb4⟩ : ∃ b4, w4.heap.size = b4 := ⟨_, rfl⟩
  have hg4b : g4 < b4 := by rw [← hb4]; exact HG44.out.lt
  have hgt4b : gt4 < b4 := by rw [← hb4]; exact HY44.out.lt
  have HN4 : Hid ((w4.alloc (.cells #[.int .i64 0, .int .i64 0, .int .i64 0, .int .i64 0, .int .i64 0, .int .i64 0, .int .i64 0, .int .i64 0, .slice none 0 0, .int .i64 0, .int .i64 0, .bool false, .int .i64 0, .int .i64 0, .string ⟨#[]⟩, .slice none 0 0, .int .i64 0] 43)).heap[b4]? = some (.cells #[.int .i64 0, .int .i64 0, .int .i64 0, .int .i64 0, .int .i64 0, .int .i64 0, .int .i64 0, .int .i64 0, .slice none 0 0, .int .i64 0, .int .i64 0, .bool false, .int .i64 0, .int .i64 0, .string ⟨#[]⟩, .slice none 0 0, .int .i64 0] 43)) := by rw [← hb4]; exact heap_new w4 _
  have HE4 : Hid (w4.heap.size = b4) := hb4
  go_wp2_with (refine listStoreD rfl rfl _ _ _ rfl rfl b4 #[.int .i64 p.s, .int .i64 p.n, .int .i64 p.d, .int .i64 p.r, .int .i64 p.l, .int .i64 p.b, .int .i64 p.g, .int .i64 p.k, .slice (some ⟨g4, 0, none⟩) n n, .int .i64 al, .int .i64 m.a, .bool m.b, .int .i64 m.n, .int .i64 m.d, .string ⟨m.s.toArray⟩, .slice (some ⟨gt4, 0, none⟩) tn tn, .int .i64 rf] rfl rfl rfl (by kernel_rfl) HN4.out rfl ?_)
  intro w5 hput
  have HB5 : Hid (Below w.heap.size w w5) := hput.2.2.2 _ _ (by omega) (bel_on (Nat.le_refl _) HB4.out (alM _ _))
  have HX5 : Hid (w5.heap[w.heap.size]? = some (.cells #[.int .i64 p.s, .int .i64 p.n, .int .i64 p.d, .int .i64 p.r, .int .i64 p.l, .int .i64 p.b, .int .i64 p.g, .int .i64 p.k, .slice a n cap, .int .i64 al, .int .i64 m.a, .bool m.b, .int .i64 m.n, .int .i64 m.d, .string ⟨m.s.toArray⟩, .slice ta tn tc, .int .i64 rf] 33)) := hput.far (row_on HX4.out (alM _ _)) (by omega)
  have HV5 : Hid (w5.heap[b4]? = some (.cells #[.int .i64 p.s, .int .i64 p.n, .int .i64 p.d, .int .i64 p.r, .int .i64 p.l, .int .i64 p.b, .int .i64 p.g, .int .i64 p.k, .slice (some ⟨g4, 0, none⟩) n n, .int .i64 al, .int .i64 m.a, .bool m.b, .int .i64 m.n, .int .i64 m.d, .string ⟨m.s.toArray⟩, .slice (some ⟨gt4, 0, none⟩) tn tn, .int .i64 rf] 43)) := hput.1
  have HG45 : Hid (G.RowAt w5 g4 l) := (hput.2.1 _ (by omega)).trans (HG44.out.keep (alM _ _) HG44.out.lt)
  have HY45 : Hid (RowY w5 gt4 t) := (hput.2.1 _ (by omega)).trans (HY44.out.on (alM _ _))
  clear hput HB4 HX4 HG44 HY44 HN4 hb4
  go_wp2_with (refine wpList_load_row rfl _ _ rfl b4 rfl _ _ _ _ HV5.out Tryd.underlying43 rfl (by kernel_rfl) ?_)
  go_wp2_with fail
  refine (showI p (some ⟨g4, 0, none⟩) n n l al m (some ⟨gt4, 0, none⟩) tn tn rf P Gk Mk HP.out HG.out HM.out B HD.out HL.out (by omega) (by omega) _ HG45.out.rd (J.tabH_below HTB.out HB5.out).1 (J.tabH_below HTB.out HB5.out).2).mono ?_
  rintro e w6 ⟨rfl, hb⟩
  have HB6 : Hid (Below w.heap.size w w6) := bel_on (Nat.le_refl _) HB5.out hb
  have HX6 : Hid (w6.heap[w.heap.size]? = some (.cells #[.int .i64 p.s, .int .i64 p.n, .int .i64 p.d, .int .i64 p.r, .int .i64 p.l, .int .i64 p.b, .int .i64 p.g, .int .i64 p.k, .slice a n cap, .int .i64 al, .int .i64 m.a, .bool m.b, .int .i64 m.n, .int .i64 m.d, .string ⟨m.s.toArray⟩, .slice ta tn tc, .int .i64 rf] 33)) := row_on HX5.out hb
  have HV6 : Hid (w6.heap[b4]? = some (.cells #[.int .i64 p.s, .int .i64 p.n, .int .i64 p.d, .int .i64 p.r, .int .i64 p.l, .int .i64 p.b, .int .i64 p.g, .int .i64 p.k, .slice (some ⟨g4, 0, none⟩) n n, .int .i64 al, .int .i64 m.a, .bool m.b, .int .i64 m.n, .int .i64 m.d, .string ⟨m.s.toArray⟩, .slice (some ⟨gt4, 0, none⟩) tn tn, .int .i64 rf] 43)) := row_on HV5.out hb
  have HG46 : Hid (G.RowAt w6 g4 l) := HG45.out.keep hb HG45.out.lt
  have HY46 : Hid (RowY w6 gt4 t) := HY45.out.on hb
  clear HB5 HX5 HV5 HG45 HY45 hb
  have HK : KD w6 w6.drew w.heap.size b4 (.cells #[.int .i64 p.s, .int .i64 p.n, .int .i64 p.d, .int .i64 p.r, .int .i64 p.l, .int .i64 p.b, .int .i64 p.g, .int .i64 p.k, .slice a n cap, .int .i64 al, .int .i64 m.a, .bool m.b, .int .i64 m.n, .int .i64 m.d, .string ⟨m.s.toArray⟩, .slice ta tn tc, .int .i64 rf] 33) (.cells #[.int .i64 p.s, .int .i64 p.n, .int .i64 p.d, .int .i64 p.r, .int .i64 p.l, .int .i64 p.b, .int .i64 p.g, .int .i64 p.k, .slice (some ⟨g4, 0, none⟩) n n, .int .i64 al, .int .i64 m.a, .bool m.b, .int .i64 m.n, .int .i64 m.d, .string ⟨m.s.toArray⟩, .slice (some ⟨gt4, 0, none⟩) tn tn, .int .i64 rf] 43) := ⟨HX6.out, HV6.out, (Below.refl _ _).drew⟩
  obtain ⟨TX, hTX⟩ : ∃ x, shB B p al = x := ⟨_, rfl⟩
  rw [hTX]
  clear hTX
  (
    go_upto_region 10 with fail
    refine wp_region_held_drew (S := fun w' => KD w6 w' w.heap.size b4 (.cells #[.int .i64 p.s, .int .i64 p.n, .int .i64 p.d, .int .i64 p.r, .int .i64 p.l, .int .i64 p.b, .int .i64 p.g, .int .i64 p.k, .slice a n cap, .int .i64 al, .int .i64 m.a, .bool m.b, .int .i64 m.n, .int .i64 m.d, .string ⟨m.s.toArray⟩, .slice ta tn tc, .int .i64 rf] 33) (.cells #[.int .i64 p.s, .int .i64 p.n, .int .i64 p.d, .int .i64 p.r, .int .i64 p.l, .int .i64 p.b, .int .i64 p.g, .int .i64 p.k, .slice (some ⟨g4, 0, none⟩) n n, .int .i64 al, .int .i64 m.a, .bool m.b, .int .i64 m.n, .int .i64 m.d, .string ⟨m.s.toArray⟩, .slice (some ⟨gt4, 0, none⟩) tn tn, .int .i64 rf] 43)) (by kernel_rfl) HK (fun hHeld => ?_)
    refine wpAnyH_take (i := 0) (v := .agg #[.int .i64 p.s, .int .i64 p.n, .int .i64 p.d, .int .i64 p.r, .int .i64 p.l, .int .i64 p.b, .int .i64 p.g, .int .i64 p.k, .slice (some ⟨g4, 0, none⟩) n n, .int .i64 al, .int .i64 m.a, .bool m.b, .int .i64 m.n, .int .i64 m.d, .string ⟨m.s.toArray⟩, .slice (some ⟨gt4, 0, none⟩) tn tn, .int .i64 rf]) rfl (by kernel_rfl) (by kernel_rfl) (by kernel_rfl) (fun _ _ _ h => h) (Or.inl ⟨by rfl, fun w_ hSw => exec_load_row _ _ rfl b4 rfl _ _ _ hSw.2.1 (by kernel_rfl) (by kernel_rfl)⟩) (by assumption) ?_
    refine wpAnyH_take (i := 1) (v := .agg #[.int .i64 p.s, .int .i64 p.n, .int .i64 p.d, .int .i64 p.r, .int .i64 p.l, .int .i64 p.b, .int .i64 p.g, .int .i64 p.k, .slice a n cap, .int .i64 al, .int .i64 m.a, .bool m.b, .int .i64 m.n, .int .i64 m.d, .string ⟨m.s.toArray⟩, .slice ta tn tc, .int .i64 rf]) rfl (by kernel_rfl) (by kernel_rfl) (by kernel_rfl) (fun _ _ _ h => h) (Or.inl ⟨by rfl, fun w_ hSw => exec_load_row _ _ rfl w.heap.size rfl _ _ _ hSw.1 (by kernel_rfl) (by kernel_rfl)⟩) (by assumption) ?_
    try simp only [Act.put, List.setIfInBounds_toArray, List.set_cons_zero, List.set_cons_succ, List.getElem_toArray, List.getElem_cons_zero, List.getElem_cons_succ]
    refine wpAnyH_ready (rs := [2]) (by kernel_rfl) (by simp) ?_
    refine AllReadyH.cons rfl (fun J hJ => ?_) AllReadyH.nil
    go_simp
    go_at_call 6
    refine (toDv p a n cap l al m ta tn tc t rf HL.out hn HT.out htn2 _ (HRL.out.keep HB6.out.drew (Nat.le_refl _)) (HRT.out.keep HB6.out.drew (Nat.le_refl _))).mono ?_
    rintro e w7 ⟨g7, gt7, rfl, hg7, hgt7, hrow7, hrowt7, hb7⟩
    have HK7 := HK.on hb7
    have HG47 : Hid (G.RowAt w7 g4 l) := (HG46.out.keep ((Below.refl _ _).drew.trans hb7) HG46.out.lt)
    have HY47 : Hid (RowY w7 gt4 t) := row_on HY46.out ((Below.refl _ _).drew.trans hb7)
    have HB7 : Hid (Below w.heap.size w w7) := bel_on (Nat.le_refl _) HB6.out ((Below.refl _ _).drew.trans hb7)
    have HGR : Hid (G.RowAt w7 g7 l) := hrow7
    have HYR : Hid (RowY w7 gt7 t) := hrowt7
    clear hb7 hrow7 hrowt7
    go_wp2_with fail
    refine hJ.out _ _ HK7 (fun hHeld1 => ?_)
    clear hJ J hHeld
    try simp only [Act.put, List.setIfInBounds_toArray, List.set_cons_zero, List.set_cons_succ, List.getElem_toArray, List.getElem_cons_zero, List.getElem_cons_succ]
    refine wpAnyH_ready (rs := [3]) (by kernel_rfl) (by simp) ?_
    refine AllReadyH.cons rfl (fun J hJ => ?_) AllReadyH.nil
    go_simp
    go_at_call 8
    refine (eqDv p (some ⟨g4, 0, none⟩) (some ⟨g7, 0, none⟩) n n n l al m (some ⟨gt4, 0, none⟩) (some ⟨gt7, 0, none⟩) tn tn tn t rf HL.out hn HT.out htn2 _ HG47.out.rd HGR.out.rd HY47.out.rd HYR.out.rd).mono ?_
    rintro e w8 ⟨rfl, hb8⟩
    have HK8 := HK7.on hb8
    have HB8 : Hid (Below w.heap.size w w8) := bel_on (Nat.le_refl _) HB7.out hb8
    clear hb8
    go_wp2_with fail
    refine hJ.out _ _ HK8 (fun hHeld2 => ?_)
    clear hJ J hHeld1
    try simp only [Act.put, List.setIfInBounds_toArray, List.set_cons_zero, List.set_cons_succ, List.getElem_toArray, List.getElem_cons_zero, List.getElem_cons_succ]
    refine wpAnyH_take (i := 4) (v := .bool false) rfl (by kernel_rfl) (by kernel_rfl) (by kernel_rfl) (fun _ _ _ h => h) (Or.inl ⟨by rfl, fun w_ hSw => by go_simp <;> with_reducible rfl⟩) (by assumption) ?_
    try simp only [Act.put, List.setIfInBounds_toArray, List.set_cons_zero, List.set_cons_succ, List.getElem_toArray, List.getElem_cons_zero, List.getElem_cons_succ]
    refine wpAnyH_done (by kernel_rfl) ?_ _
    go_wp2
    go_ret
    exact ⟨rfl, HB8.out⟩)

set_option maxRecDepth 100000 in
theorem contract (H : Type) (enc : TypeId × Value → H) (W : World) (base : Nat) (args : Array Value) (ds gs : List (DataW H)) (before : List MemPlace)
    (hval : ∀ (j : Nat) t v, Tryd.f3.params[j]? = some t → args[j]? = some v → Value.okWide Tryd.prog W .any base t v)
    (hW : DataW.Whole enc Tryd.prog Tryd.f3.params.toList Rows.fnExactShowDeviceSpec.vars false W args.toList ds gs before) (hL : laidMetH Tryd.prog Rows.fnExactShowDeviceRow.laid W) :
    Calls Tryd.prog 3 args W fun e W' => ∃ v, e = .returned v ∧ Rows.fnExactShowDeviceSpec.post enc Tryd.prog Tryd.f3 false true false false W args v W' := by
  have hW' := hW
  obtain ⟨p, q, hA0, hV, rfl, hfz, hnd⟩ := hW
  have hA : DataW.TrodAll enc Tryd.prog W 0 (fun _ => true) true Tryd.f3.params.toList args.toList ds p := hA0
  rw [Tryd.params3] at hA hval
  obtain ⟨v0, vs0, d0, ds0, p0, q0, hargs, rfl, rfl, h0, r0⟩ := trodAll_cons hA
  obtain ⟨rfl, rfl, rfl⟩ := trodAll_nil r0
  obtain rfl : args = #[v0] := by cases args; simp_all
  have hV' : DataW.TrodVars enc Tryd.prog W (fun _ => true) ["loop.example/g00200/impl.senseNames"] gs q := hV
  obtain ⟨gv, tv, csv, fuelv, dv, pv, rfl, _, _, _, _, rfl⟩ := trodVars_one hV'
  have k0 := h0
  have lt0 : ∀ x ∈ p0, x.block < W.heap.size := by obtain ⟨m, hm⟩ := k0; exact DataW.trod_lt m _ _ _ hm
  obtain ⟨p0d, al0d, a0d, n0d, cap0d, z0d, m0d, ta0d, tn0d, tc0d, tl0d, rf0d, rfl, wa0, wb0, wc0, wd0, we0, wf0⟩ := open_device (hval 0 33 v0 rfl rfl) h0
  clear hA0
  refine (walk p0d al0d a0d n0d cap0d z0d m0d ta0d tn0d tc0d tl0d rf0d W wa0 wb0 wc0 wd0 we0 wf0 (table hL)).mono fun e W' ⟨he, bel⟩ => ?_
  subst he
  exact ⟨_, rfl, _, _, _, [], _, _, hW', trodAll_mk1 (shut_bool Tryd.underlying4 _), (trodAll_cons_mk (Below.trod laidOut (by kernel_rfl) (of_decide_eq_true (by kernel_rfl)) k0 bel lt0) trodAll_mk0), bel.trodVars laidOut (by kernel_rfl) hV, bel.frame _, fun h => by cases h⟩

set_option maxRecDepth 100000 in
theorem laid_met (os : Os) : laidMet Tryd.prog Rows.fnExactShowDeviceRow.laid ((J.layH (World.holding Tryd.prog os ⟨#[], #[], []⟩)).forCall (fun _ _ => 0) ⟨#[], #[.agg #[.int .i64 0, .int .i64 0, .int .i64 0, .int .i64 0, .int .i64 0, .int .i64 0, .int .i64 0, .int .i64 0, .slice none 0 0, .int .i64 0, .int .i64 0, .bool false, .int .i64 0, .int .i64 0, .string ⟨#[]⟩, .slice none 0 0, .int .i64 0]], []⟩).memory :=
  laidMet_of_run' 8 (by kernel_rfl) (by kernel_rfl)
set_option maxRecDepth 100000 in
theorem reads (os : Os) {H : Type} (enc : TypeId × Value → H) : ∃ places, DataW.whole enc Tryd.prog ((J.layH (World.holding Tryd.prog os ⟨#[], #[], []⟩)).forCall (fun _ _ => 0) ⟨#[], #[.agg #[.int .i64 0, .int .i64 0, .int .i64 0, .int .i64 0, .int .i64 0, .int .i64 0, .int .i64 0, .int .i64 0, .slice none 0 0, .int .i64 0, .int .i64 0, .bool false, .int .i64 0, .int .i64 0, .string ⟨#[]⟩, .slice none 0 0, .int .i64 0]], []⟩).memory Tryd.f3.params.toList Rows.fnExactShowDeviceSpec.vars false #[Value.agg #[.int .i64 0, .int .i64 0, .int .i64 0, .int .i64 0, .int .i64 0, .int .i64 0, .int .i64 0, .int .i64 0, .slice none 0 0, .int .i64 0, .int .i64 0, .bool false, .int .i64 0, .int .i64 0, .string ⟨#[]⟩, .slice none 0 0, .int .i64 0]].toList 8 = some ([.agg [.agg [.lit (.int .i64 0), .agg [.lit (.int .i64 0), .lit (.int .i64 0), .lit (.int .i64 0)], .lit (.int .i64 0), .lit (.int .i64 0), .lit (.int .i64 0), .lit (.int .i64 0)], .agg [.nil, .lit (.int .i64 0)], .agg [.lit (.int .i64 0), .lit (.bool false), .lit (.int .i64 0), .lit (.int .i64 0), .lit (.string [])], .nil, .lit (.int .i64 0)]], [Rows.laid_loop_example_g00200_impl_senseNames], places) :=
  ⟨MemPlace.row ⟨0, 0, none⟩ 4, by kernel_rfl⟩

set_option maxRecDepth 100000 in
theorem lifted (os : Os) (started : os.Started) (H : Type) (enc : TypeId × Value → H) (F : Stop.Interp) :
    ReturnsInHanded {} Tryd.checked os 3 .any ((OpenSpec.ofChange Rows.fnExactShowDeviceSpec).preRow enc Tryd.prog Tryd.f3 Rows.fnExactShowDeviceRow.domain false Rows.fnExactShowDeviceRow.laid) (((OpenSpec.ofChange Rows.fnExactShowDeviceSpec).at F).post enc Tryd.prog Tryd.f3 false true false false) := by
  obtain ⟨places, hx⟩ := reads os enc
  refine returnsInHanded_of_row (C := Tryd.checked) (s := OpenSpec.ofChange Rows.fnExactShowDeviceSpec) own started (by kernel_rfl) Tryd.func3
    (witness_row_at (enc := enc) (C := Tryd.checked) false (J.layH (World.holding Tryd.prog os ⟨#[], #[], []⟩)) #[.agg #[.int .i64 0, .int .i64 0, .int .i64 0, .int .i64 0, .int .i64 0, .int .i64 0, .int .i64 0, .int .i64 0, .slice none 0 0, .int .i64 0, .int .i64 0, .bool false, .int .i64 0, .int .i64 0, .string ⟨#[]⟩, .slice none 0 0, .int .i64 0]] rfl (by kernel_rfl) (by kernel_rfl) (by kernel_rfl)
      (OpenSpec.preRow_of_cond 8 hx (by kernel_rfl) (fun k hk => by cases hk) (by kernel_rfl) (laid_met os))) ?_
  intro W base args ds gs before hval hW _ _ _ hL _ _
  exact contract H enc W base args ds gs before hval hW hL

theorem said : Rows.FnExactShowDeviceSaid :=
  OpenClaim.holds_of_cond 3 Tryd.f3 rfl rfl rfl rfl rfl rfl rfl ⟨rfl, rfl, rfl, rfl, rfl⟩ rfl rfl rfl rfl rfl (by kernel_rfl) Tryd.func3 (by kernel_rfl)
    (of_decide_eq_true (by kernel_rfl)) (by unfold Func.isWrapper; first | (rw [if_pos (by decide +kernel)]; kernel_rfl) | (rw [if_neg (by decide +kernel)]; exact ⟨rfl, rfl⟩))
    (fun os started H enc _ F => by rw [OpenClaim.pre_eq_preRow]; exact lifted os started H enc F)

theorem plain (f : FuncId) (fn : Func) (hf : Tryd.pinned.checked.prog.funcNamed Rows.fnExactShowDeviceRow.func = some f) (hfn : Tryd.pinned.checked.prog.funcs[f]? = some fn) :
    false = Tryd.pinned.checked.prog.looks [] ∧ ∀ (j : Nat) t, fn.params[j]? = some t → Tryd.pinned.checked.prog.wantsStandIn t = false := by
  obtain rfl : f = 3 := Option.some.inj ((show Tryd.prog.funcNamed Rows.fnExactShowDeviceRow.func = some 3 by kernel_rfl).symm.trans hf) |>.symm
  obtain rfl : fn = Tryd.f3 := (Option.some.inj (Tryd.func3.symm.trans hfn)).symm
  refine ⟨by kernel_rfl, fun j t ht => ?_⟩
  rw [Tryd.params3] at ht
  obtain rfl : t = 33 := by simpa using Array.mem_of_getElem? ht
  exact (show Tryd.prog.wantsStandIn 33 = false by kernel_rfl)

theorem card : Rows.FnExactShowDeviceCardSaid :=
  Claim7.holds_tied_plain_at .later [] _ _ _ _ said (fun _ h => by cases h) (by kernel_rfl) (fun _ h => by cases h) fnExactShowDevice_row_tie rfl ⟨rfl, rfl⟩ (by kernel_rfl) rfl plain (by kernel_rfl)

end Go.Proofs.YtckeffccoghgeaaDoor.fnExactShowDevice
namespace Go.Proofs.YtckeffccoghgeaaDoor
theorem fnExactShowDevice_card : Rows.FnExactShowDeviceCardSaid :=
  fnExactShowDevice.card
#print axioms fnExactShowDevice_card
end Go.Proofs.YtckeffccoghgeaaDoor
