/-
  SoundDevice of the program, on lives.
-/
import Derived.Test.YtfhhnelffldggaaGreatDoorUqAC
import Derived.Test.YtfhhnelffldggaaGreatDoorUqBZ
import Derived.Test.YtfhhnelffldggaaGreatDoorUqBN
import Derived.Test.YtfhhnelffldggaaGreatDoorUqAW
import Derived.Deep.DeepHandedRow
import Derived.Test.YtfhhnelffldggaaGreatDoorUqAU
import Derived.Test.YtfhhnelffldggaaGreatDoorUqAV
set_option maxRecDepth 100000
set_option maxHeartbeats 16000000
namespace Go.Proofs.YtfhhnelffldggaaGreatDoor
open Go.ChangeShapes Go.WideShapes Go.ChangeAt Go.RowKit Go.Deep Go.PlainAid
set_option linter.unusedVariables false
set_option linter.unusedSimpArgs false
theorem soundI (p : Pm) (a : Option Addr) (n cap : Nat) (l : List Int) (al : Int) (m : Mn) (ta : Option Addr) (tn tc : Nat) (t : List Tk3) (rf : Int) (hD : Dv.ok ⟨p, l, al, m, t, rf⟩) (hl : l.length = n) (ht : t.length = tn) (htn : tn ≤ 150) (htc : tn ≤ tc) (hrf : rf ≤ 1000000000) (hP : ∀ x ∈ t, 0 ≤ x.1 ∧ x.1 ≤ 30) (hSp : ∀ j, sumT (spL t j) ≤ 30) (hSt : t.all stopT = true) (hg : p.g = sumT t) (w : World) (hr : G.Rd w a l) (hrt : RdY w ta t) :
  Calls Tryz.prog 11 #[.agg #[.int .i64 p.s, .int .i64 p.n, .int .i64 p.d, .int .i64 p.r, .int .i64 p.l, .int .i64 p.b, .int .i64 p.g, .int .i64 p.k, .slice a n cap, .int .i64 al, .int .i64 m.a, .bool m.b, .int .i64 m.n, .int .i64 m.d, .string ⟨m.s.toArray⟩, .slice ta tn tc, .int .i64 rf]] w fun e w' => e = .returned (.bool true) ∧ Below w.heap.size w w' := by
 have HDO := hq hD
 have HL := hq hl
 have HTL := hq ht
 have HP := hq hP
 have HSP := hq hSp
 have HST := hq hSt
 have HGV : Hid (sumT t = p.g) := hg.symm
 have HRG := hq hr
 have HRT := hq hrt
 have hn9 : n ≤ 9 := by have h := hD.g.1; dsimp only at h; omega
 have hrf0 : 0 ≤ rf := hD.r
 have HDB : Hid (devB true true true tn rf = true) := by
  show _ = _
  unfold devB
  rw [decide_eq_true (show (tn : Int) ≤ 200 by omega), decide_eq_true (show 0 ≤ rf ∧ rf ≤ 1000000000 from ⟨hrf0, hrf⟩)]
  rfl
 obtain ⟨W0, hW0⟩ : ∃ W0, w.alloc (dO p (.slice a n cap) al m (.slice ta tn tc) rf) = W0 := ⟨_, rfl⟩
 have HX0 : Hid (W0.heap[w.heap.size]? = some (dO p (.slice a n cap) al m (.slice ta tn tc) rf)) := by rw [← hW0]; exact heap_new w _
 have HBw : Hid (Below w.heap.size w W0) := by rw [← hW0]; exact alM _ _
 clear hD hl ht hP hSp hSt hg hr hrt
 go_enter Tryz.func11, Tryz.ntmps11
 go_upto_region 1 with fail
 (try rw [hW0])
 clear hW0
 have HK0 : W0.drew.heap[w.heap.size]? = some (dO p (.slice a n cap) al m (.slice ta tn tc) rf) := HX0.out
 have HB0 : Hid (Below w.heap.size w W0.drew) := bel_on (Nat.le_refl _) HBw.out (Below.refl _ _).drew
 refine wp_region_held_drew (S := fun w' => w'.heap[w.heap.size]? = some (dO p (.slice a n cap) al m (.slice ta tn tc) rf)) (by kernel_rfl) HK0 (fun hHeld => ?_)
 obtain ⟨v0, hv0⟩ : ∃ v0, W0.drew = v0 := ⟨_, rfl⟩
 rw [hv0] at HK0 HB0 hHeld ⊢
 clear hv0 HX0 HBw
 refine wpAnyH_take (i := 0) (v := .agg #[.int .i64 p.s, .int .i64 p.n, .int .i64 p.d, .int .i64 p.r, .int .i64 p.l, .int .i64 p.b, .int .i64 p.g, .int .i64 p.k, .slice a n cap, .int .i64 al, .int .i64 m.a, .bool m.b, .int .i64 m.n, .int .i64 m.d, .string ⟨m.s.toArray⟩, .slice ta tn tc, .int .i64 rf]) rfl (by kernel_rfl) (by kernel_rfl) (by kernel_rfl) (fun _ _ _ h => h) (Or.inl ⟨by rfl, fun w_ hSw => exec_load_row _ _ rfl w.heap.size rfl _ _ _ hSw (by kernel_rfl) (by kernel_rfl)⟩) (by assumption) ?_
 try simp only [Act.put, sQ]
 refine wpAnyH_ready (rs := [1]) (by kernel_rfl) (by simp) ?_
 refine (AllReadyH.cons rfl (fun Jx hJ => ?_) AllReadyH.nil)
 go_simp
 go_at_call 18
 refine (deviceokIR p a n cap l al m ta tn tc rf HDO.out.p HDO.out.g HDO.out.m.1 (by omega) ⟨HDO.out.r, by omega⟩ HL.out (by omega) _ (HRG.out.keep HB0.out (Nat.le_refl _))).mono ?_
 rintro e v1 ⟨rfl, hbc⟩
 have HK1 : v1.heap[w.heap.size]? = some (dO p (.slice a n cap) al m (.slice ta tn tc) rf) := row_on HK0 hbc
 have HB1 := bq HB0 hbc
 clear hbc HK0
 go_wp2_with fail
 refine hJ.out _ _ HK1 (fun hHeld => ?_)
 clear hJ Jx
 try simp only [Act.put, sQ]
 refine tkQ 2 ?_ rfl ?_ ?_
 rotate_left
 · intro w_ hSw; clear hSw; (try clear hHeld); go_simp <;> with_reducible rfl
 try simp only [Act.put, sQ]
 refine tkQ 3 ?_ rfl ?_ ?_
 rotate_left
 · intro w_ hSw; clear hSw; (try clear hHeld); go_simp <;> with_reducible rfl
 try simp only [Act.put, sQ]
 refine tkQ 4 ?_ rfl ?_ ?_
 rotate_left
 · intro w_ hSw; have f0 := box17_cells hSw; clear hSw; (try clear hHeld); go_simp <;> with_reducible rfl
 try simp only [Act.put, sQ]
 refine wpAnyH_ready (rs := [5]) (by kernel_rfl) (by simp) ?_
 refine (AllReadyH.cons rfl (fun Jx hJ => ?_) AllReadyH.nil)
 go_simp
 go_at_call 34
 refine (withinI ta t tn tc HTL.out (by omega) (by omega) HP.out HSP.out _ (HRT.out.keep HB1.out (Nat.le_refl _))).mono ?_
 rintro e v2 ⟨rfl, hbc⟩
 have HK2 : v2.heap[w.heap.size]? = some (dO p (.slice a n cap) al m (.slice ta tn tc) rf) := row_on HK1 hbc
 have HB2 := bq HB1 hbc
 clear hbc HK1
 go_wp2_with fail
 refine hJ.out _ _ HK2 (fun hHeld => ?_)
 clear hJ Jx
 try simp only [Act.put, sQ]
 refine tkQ 6 ?_ rfl ?_ ?_
 rotate_left
 · intro w_ hSw; clear hSw; (try clear hHeld); go_simp <;> with_reducible rfl
 try simp only [Act.put, sQ]
 refine tkQ 7 ?_ rfl ?_ ?_
 rotate_left
 · intro w_ hSw; clear hSw; (try clear hHeld); go_simp <;> with_reducible rfl
 try simp only [Act.put, sQ]
 refine tkQ 8 ?_ rfl ?_ ?_
 rotate_left
 · intro w_ hSw; clear hSw; (try clear hHeld); go_simp <;> with_reducible rfl
 try simp only [Act.put, sQ]
 refine tkQ 9 ?_ rfl ?_ ?_
 rotate_left
 · intro w_ hSw; have f0 := box17_cells hSw; clear hSw; (try clear hHeld); go_simp <;> with_reducible rfl
 try simp only [Act.put, sQ]
 refine wpAnyH_ready (rs := [10]) (by kernel_rfl) (by simp) ?_
 refine (AllReadyH.cons rfl (fun Jx hJ => ?_) AllReadyH.nil)
 go_simp
 go_at_call 35
 refine (stopsI ta t tn tc HTL.out (by omega) _ (HRT.out.keep HB2.out (Nat.le_refl _))).mono ?_
 rintro e v3 ⟨rfl, hbc⟩
 rw [HST.out]
 have HK3 : v3.heap[w.heap.size]? = some (dO p (.slice a n cap) al m (.slice ta tn tc) rf) := row_on HK2 hbc
 have HB3 := bq HB2 hbc
 clear hbc HK2
 go_wp2_with fail
 refine hJ.out _ _ HK3 (fun hHeld => ?_)
 clear hJ Jx
 try simp only [Act.put, sQ]
 refine tkQ 11 ?_ rfl ?_ ?_
 rotate_left
 · intro w_ hSw; clear hSw; (try clear hHeld); go_simp <;> with_reducible rfl
 try simp only [Act.put, sQ]
 refine tkQ 12 ?_ rfl ?_ ?_
 rotate_left
 · intro w_ hSw; clear hSw; (try clear hHeld); go_simp <;> with_reducible rfl
 try simp only [Act.put, sQ]
 refine tkQ 13 ?_ rfl ?_ ?_
 rotate_left
 · intro w_ hSw; clear hSw; (try clear hHeld); go_simp <;> with_reducible rfl
 try simp only [Act.put, sQ]
 refine tkQ 14 ?_ rfl ?_ ?_
 rotate_left
 · intro w_ hSw; clear hSw; (try clear hHeld); go_simp <;> with_reducible rfl
 try simp only [Act.put, sQ]
 refine tkQ 15 ?_ rfl ?_ ?_
 rotate_left
 · intro w_ hSw; have f0 := box17_cells hSw; clear hSw; (try clear hHeld); go_simp <;> with_reducible rfl
 try simp only [Act.put, sQ]
 refine tkQ 16 ?_ rfl ?_ ?_
 rotate_left
 · intro w_ hSw; clear hSw; (try clear hHeld); go_simp <;> with_reducible rfl
 try simp only [Act.put, sQ]
 refine tkQ 17 ?_ rfl ?_ ?_
 rotate_left
 · intro w_ hSw; have f0 := box17_cells hSw; clear hSw; (try clear hHeld); go_simp <;> with_reducible rfl
 try simp only [Act.put, sQ]
 refine wpAnyH_ready (rs := [18]) (by kernel_rfl) (by simp) ?_
 refine (AllReadyH.cons rfl (fun Jx hJ => ?_) AllReadyH.nil)
 go_simp
 go_at_call 36
 refine (totalI ta t tn tc HTL.out (by omega) HP.out _ (HRT.out.keep HB3.out (Nat.le_refl _))).mono ?_
 rintro e v4 ⟨rfl, hbc⟩
 rw [HGV.out]
 have HK4 : v4.heap[w.heap.size]? = some (dO p (.slice a n cap) al m (.slice ta tn tc) rf) := row_on HK3 hbc
 have HB4 := bq HB3 hbc
 clear hbc HK3
 go_wp2_with fail
 refine hJ.out _ _ HK4 (fun hHeld => ?_)
 clear hJ Jx
 try simp only [Act.put, sQ]
 have hee : (p.g == p.g) = true := by simp
 refine tkQ 19 ?_ rfl ?_ ?_
 rotate_left
 · intro w_ hSw; clear hSw; (try clear hHeld); go_simp <;> with_reducible rfl
 try simp only [Act.put, sQ]
 refine tkQ 20 ?_ rfl ?_ ?_
 rotate_left
 · intro w_ hSw; clear hSw; (try clear hHeld); go_simp <;> with_reducible rfl
 try simp only [Act.put, sQ]
 refine tkQ 21 ?_ rfl ?_ ?_
 rotate_left
 · intro w_ hSw; clear hSw; (try clear hHeld); go_simp <;> with_reducible rfl
 try simp only [Act.put, sQ]
 refine wpAnyH_done (by kernel_rfl) ?_ _
 go_wp2
 go_ret
 exact ⟨by simp, HB4.out⟩
theorem soundS (p : Pm) (a : Option Addr) (n cap : Nat) (l : List Int) (al : Int) (m : Mn) (ta : Option Addr) (tn tc : Nat) (t : List Tk3) (rf : Int) (hD : Dv.ok ⟨p, l, al, m, t, rf⟩) (hl : l.length = n) (ht : t.length = tn) (htn : tn ≤ 150) (htc : tn ≤ tc) (hrf : rf ≤ 1000000000) (hP : ∀ x ∈ t, 0 ≤ x.1 ∧ x.1 ≤ 30) (hSp : ∀ j, sumT (spL t j) ≤ 30) (hSt : t.all stopT = true) (hg : p.g = sumT t) (w : World) (hr : G.Rd w a l) (hrt : RdY w ta t) :
  Calls Tryz.prog 12 #[.agg #[.int .i64 p.s, .int .i64 p.n, .int .i64 p.d, .int .i64 p.r, .int .i64 p.l, .int .i64 p.b, .int .i64 p.g, .int .i64 p.k, .slice a n cap, .int .i64 al, .int .i64 m.a, .bool m.b, .int .i64 m.n, .int .i64 m.d, .string ⟨m.s.toArray⟩, .slice ta tn tc, .int .i64 rf]] w fun e w' => e = .returned (.bool true) ∧ Below w.heap.size w w' := by
 have HDO := hq hD
 have HL := hq hl
 have HTL := hq ht
 have HP := hq hP
 have HSP := hq hSp
 have HST := hq hSt
 have HGV : Hid (sumT t = p.g) := hg.symm
 have HRG := hq hr
 have HRT := hq hrt
 have hn9 : n ≤ 9 := by have h := hD.g.1; dsimp only at h; omega
 have hrf0 : 0 ≤ rf := hD.r
 have HDB : Hid (devB true true true tn rf = true) := by
  show _ = _
  unfold devB
  rw [decide_eq_true (show (tn : Int) ≤ 200 by omega), decide_eq_true (show 0 ≤ rf ∧ rf ≤ 1000000000 from ⟨hrf0, hrf⟩)]
  rfl
 obtain ⟨W0, hW0⟩ : ∃ W0, w.alloc (dO p (.slice a n cap) al m (.slice ta tn tc) rf) = W0 := ⟨_, rfl⟩
 have HX0 : Hid (W0.heap[w.heap.size]? = some (dO p (.slice a n cap) al m (.slice ta tn tc) rf)) := by rw [← hW0]; exact heap_new w _
 have HBw : Hid (Below w.heap.size w W0) := by rw [← hW0]; exact alM _ _
 clear hD hl ht hP hSp hSt hg hr hrt
 go_enter Tryz.func12, Tryz.ntmps12
 go_upto_region 1 with fail
 (try rw [hW0])
 clear hW0
 have HK0 : W0.drew.heap[w.heap.size]? = some (dO p (.slice a n cap) al m (.slice ta tn tc) rf) := HX0.out
 have HB0 : Hid (Below w.heap.size w W0.drew) := bel_on (Nat.le_refl _) HBw.out (Below.refl _ _).drew
 refine wp_region_held_drew (S := fun w' => w'.heap[w.heap.size]? = some (dO p (.slice a n cap) al m (.slice ta tn tc) rf)) (by kernel_rfl) HK0 (fun hHeld => ?_)
 obtain ⟨v0, hv0⟩ : ∃ v0, W0.drew = v0 := ⟨_, rfl⟩
 rw [hv0] at HK0 HB0 hHeld ⊢
 clear hv0 HX0 HBw
 refine wpAnyH_take (i := 0) (v := .agg #[.int .i64 p.s, .int .i64 p.n, .int .i64 p.d, .int .i64 p.r, .int .i64 p.l, .int .i64 p.b, .int .i64 p.g, .int .i64 p.k, .slice a n cap, .int .i64 al, .int .i64 m.a, .bool m.b, .int .i64 m.n, .int .i64 m.d, .string ⟨m.s.toArray⟩, .slice ta tn tc, .int .i64 rf]) rfl (by kernel_rfl) (by kernel_rfl) (by kernel_rfl) (fun _ _ _ h => h) (Or.inl ⟨by rfl, fun w_ hSw => exec_load_row _ _ rfl w.heap.size rfl _ _ _ hSw (by kernel_rfl) (by kernel_rfl)⟩) (by assumption) ?_
 try simp only [Act.put, sQ]
 refine wpAnyH_ready (rs := [1]) (by kernel_rfl) (by simp) ?_
 refine (AllReadyH.cons rfl (fun Jx hJ => ?_) AllReadyH.nil)
 go_simp
 go_at_call 37
 refine (deviceokS p a n cap l al m ta tn tc rf true true true ⟨fun _ => HDO.out.p, fun _ => rfl⟩ ⟨fun _ => HDO.out.g, fun _ => rfl⟩ HDO.out.m.1 true HDB.out HL.out (by omega) (by omega) _ (HRG.out.keep HB0.out (Nat.le_refl _))).mono ?_
 rintro e v1 ⟨rfl, hbc⟩
 have HK1 : v1.heap[w.heap.size]? = some (dO p (.slice a n cap) al m (.slice ta tn tc) rf) := row_on HK0 hbc
 have HB1 := bq HB0 hbc
 clear hbc HK0
 go_wp2_with fail
 refine hJ.out _ _ HK1 (fun hHeld => ?_)
 clear hJ Jx
 try simp only [Act.put, sQ]
 refine tkQ 2 ?_ rfl ?_ ?_
 rotate_left
 · intro w_ hSw; clear hSw; (try clear hHeld); go_simp <;> with_reducible rfl
 try simp only [Act.put, sQ]
 refine tkQ 3 ?_ rfl ?_ ?_
 rotate_left
 · intro w_ hSw; clear hSw; (try clear hHeld); go_simp <;> with_reducible rfl
 try simp only [Act.put, sQ]
 refine tkQ 4 ?_ rfl ?_ ?_
 rotate_left
 · intro w_ hSw; have f0 := box17_cells hSw; clear hSw; (try clear hHeld); go_simp <;> with_reducible rfl
 try simp only [Act.put, sQ]
 refine wpAnyH_ready (rs := [5]) (by kernel_rfl) (by simp) ?_
 refine (AllReadyH.cons rfl (fun Jx hJ => ?_) AllReadyH.nil)
 go_simp
 go_at_call 38
 refine (withinS ta t tn tc HTL.out (by omega) HP.out HSP.out _ (HRT.out.keep HB1.out (Nat.le_refl _))).mono ?_
 rintro e v2 ⟨rfl, hvv⟩
 have hbc : Below v1.heap.size v1 v2 := by rw [hvv]; exact Below.refl _ _
 clear hvv
 have HK2 : v2.heap[w.heap.size]? = some (dO p (.slice a n cap) al m (.slice ta tn tc) rf) := row_on HK1 hbc
 have HB2 := bq HB1 hbc
 clear hbc HK1
 go_wp2_with fail
 refine hJ.out _ _ HK2 (fun hHeld => ?_)
 clear hJ Jx
 try simp only [Act.put, sQ]
 refine tkQ 6 ?_ rfl ?_ ?_
 rotate_left
 · intro w_ hSw; clear hSw; (try clear hHeld); go_simp <;> with_reducible rfl
 try simp only [Act.put, sQ]
 refine tkQ 7 ?_ rfl ?_ ?_
 rotate_left
 · intro w_ hSw; clear hSw; (try clear hHeld); go_simp <;> with_reducible rfl
 try simp only [Act.put, sQ]
 refine tkQ 8 ?_ rfl ?_ ?_
 rotate_left
 · intro w_ hSw; clear hSw; (try clear hHeld); go_simp <;> with_reducible rfl
 try simp only [Act.put, sQ]
 refine tkQ 9 ?_ rfl ?_ ?_
 rotate_left
 · intro w_ hSw; have f0 := box17_cells hSw; clear hSw; (try clear hHeld); go_simp <;> with_reducible rfl
 try simp only [Act.put, sQ]
 refine wpAnyH_ready (rs := [10]) (by kernel_rfl) (by simp) ?_
 refine (AllReadyH.cons rfl (fun Jx hJ => ?_) AllReadyH.nil)
 go_simp
 go_at_call 39
 refine (stopsS ta t tn tc HTL.out (by omega) _ (HRT.out.keep HB2.out (Nat.le_refl _))).mono ?_
 rintro e v3 ⟨rfl, hbc⟩
 rw [HST.out]
 have HK3 : v3.heap[w.heap.size]? = some (dO p (.slice a n cap) al m (.slice ta tn tc) rf) := row_on HK2 hbc
 have HB3 := bq HB2 hbc
 clear hbc HK2
 go_wp2_with fail
 refine hJ.out _ _ HK3 (fun hHeld => ?_)
 clear hJ Jx
 try simp only [Act.put, sQ]
 refine tkQ 11 ?_ rfl ?_ ?_
 rotate_left
 · intro w_ hSw; clear hSw; (try clear hHeld); go_simp <;> with_reducible rfl
 try simp only [Act.put, sQ]
 refine tkQ 12 ?_ rfl ?_ ?_
 rotate_left
 · intro w_ hSw; clear hSw; (try clear hHeld); go_simp <;> with_reducible rfl
 try simp only [Act.put, sQ]
 refine tkQ 13 ?_ rfl ?_ ?_
 rotate_left
 · intro w_ hSw; clear hSw; (try clear hHeld); go_simp <;> with_reducible rfl
 try simp only [Act.put, sQ]
 refine tkQ 14 ?_ rfl ?_ ?_
 rotate_left
 · intro w_ hSw; clear hSw; (try clear hHeld); go_simp <;> with_reducible rfl
 try simp only [Act.put, sQ]
 refine tkQ 15 ?_ rfl ?_ ?_
 rotate_left
 · intro w_ hSw; have f0 := box17_cells hSw; clear hSw; (try clear hHeld); go_simp <;> with_reducible rfl
 try simp only [Act.put, sQ]
 refine tkQ 16 ?_ rfl ?_ ?_
 rotate_left
 · intro w_ hSw; clear hSw; (try clear hHeld); go_simp <;> with_reducible rfl
 try simp only [Act.put, sQ]
 refine tkQ 17 ?_ rfl ?_ ?_
 rotate_left
 · intro w_ hSw; have f0 := box17_cells hSw; clear hSw; (try clear hHeld); go_simp <;> with_reducible rfl
 try simp only [Act.put, sQ]
 refine wpAnyH_ready (rs := [18]) (by kernel_rfl) (by simp) ?_
 refine (AllReadyH.cons rfl (fun Jx hJ => ?_) AllReadyH.nil)
 go_simp
 go_at_call 40
 refine (totSd ta t tn tc HTL.out (by omega) HP.out p.g HGV.out _ (HRT.out.keep HB3.out (Nat.le_refl _))).mono ?_
 rintro e v4 ⟨rfl, hvv⟩
 have hbc : Below v3.heap.size v3 v4 := by rw [hvv]; exact Below.refl _ _
 clear hvv
 have HK4 : v4.heap[w.heap.size]? = some (dO p (.slice a n cap) al m (.slice ta tn tc) rf) := row_on HK3 hbc
 have HB4 := bq HB3 hbc
 clear hbc HK3
 go_wp2_with fail
 refine hJ.out _ _ HK4 (fun hHeld => ?_)
 clear hJ Jx
 try simp only [Act.put, sQ]
 have hee : (p.g == p.g) = true := by simp
 refine tkQ 19 ?_ rfl ?_ ?_
 rotate_left
 · intro w_ hSw; clear hSw; (try clear hHeld); go_simp <;> with_reducible rfl
 try simp only [Act.put, sQ]
 refine tkQ 20 ?_ rfl ?_ ?_
 rotate_left
 · intro w_ hSw; clear hSw; (try clear hHeld); go_simp <;> with_reducible rfl
 try simp only [Act.put, sQ]
 refine tkQ 21 ?_ rfl ?_ ?_
 rotate_left
 · intro w_ hSw; clear hSw; (try clear hHeld); go_simp <;> with_reducible rfl
 try simp only [Act.put, sQ]
 refine wpAnyH_done (by kernel_rfl) ?_ _
 go_wp2
 go_ret
 exact ⟨by simp, HB4.out⟩
end Go.Proofs.YtfhhnelffldggaaGreatDoor
