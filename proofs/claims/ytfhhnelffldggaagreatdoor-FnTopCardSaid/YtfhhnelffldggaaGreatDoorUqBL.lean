/-
  tick of the program's device.
-/
import Derived.Test.YtfhhnelffldggaaGreatDoorUqAC
import Derived.Test.YtfhhnelffldggaaGreatDoorUqBE
import Derived.Test.YtfhhnelffldggaaGreatDoorUqBJ
import Derived.Test.YtfhhnelffldggaaGreatDoorUqBK
import Derived.Deep.DeepCutAuto
set_option maxRecDepth 100000
set_option maxHeartbeats 16000000
namespace Go.Proofs.YtfhhnelffldggaaGreatDoor
open Go.RowKit Go.PlainAid
set_option linter.unusedVariables false
set_option linter.unusedSimpArgs false
theorem aqTiI {p : Prop} (h : p) : Hid p := h
theorem tickD_eqd {D : Dv} {i : Ic} {M : Mn} {l2 : List Od4} {P P3 : Pm} {R al2 nn : Int} {sb : Bool} {Y : List Int} (h1 : allM D.m i.ks = (M, l2)) (h2 : takeL ⟨D.p, D.rf + i.lr, false⟩ (l2 ++ i.lo) = ⟨P, R, sb⟩) (h3 : G.feelA true D.al i.b sb = al2) (h4 : (if true = true ∧ al2 = 0 then G.letG D.l P.wants else 0) = nn) (h5 : (if al2 = 0 then P.give nn else P) = P3) (h6 : G.passL true D.l nn = Y) :
  tickD D i = ⟨P3, Y, al2, M, D.t ++ [(nn, al2, P3.s)], R⟩ := by
 have e1 : ordsD D i = ⟨P, R, sb⟩ := by unfold ordsD; rw [h1]; exact h2
 have e2 : alD D i = al2 := by unfold alD; rw [e1]; exact h3
 have e3 : numD D i = nn := by
  unfold numD
  rw [e1, e2, ← h4]
  by_cases h : al2 = 0
  · rw [if_pos h, if_pos ⟨rfl, h⟩]
  · rw [if_neg h, if_neg (fun k => h k.2)]
 have e4 : pmpD D i = P3 := by unfold pmpD; rw [e1, e2, e3]; exact h5
 unfold tickD
 rw [e4, e3, e2, e1, h1, h6]
theorem tickI (k B : Nat) (p : Pm) (l : List Int) (al : Int) (m : Mn) (t : List Tk3) (rf : Int) (g n c gt tn ct : Nat) (x : Inp) (hx : x.ok) (hD : Dv.ok ⟨p, l, al, m, t, rf⟩) (htn : tn ≤ 100000) (hrf : rf ≤ 900000000) (hBk : B ≤ k) (p2 : Pm) (l2 : List Int) (al2 : Int) (m2 : Mn) (t2 : List Tk3) (rf2 : Int) (hR : tickD ⟨p, l, al, m, t, rf⟩ x.i = ⟨p2, l2, al2, m2, t2, rf2⟩) (w : World) (ht : Q.Tab w) (hX : w.heap[k]? = some (.cells (dR p (.slice (some ⟨g, 0, none⟩) n c) al m (.slice (some ⟨gt, 0, none⟩) tn ct) rf) 112)) (hG : G.OwnN w B g n c l) (hU : OwnU w B gt tn ct t) :
  Calls Tryz.prog 31 #[.pointer (some ⟨k, 0, none⟩), .agg #[.int .i64 x.i.b, .string x.K, .string x.L]] w fun e w' => e = .returned (.tuple #[]) ∧ ∃ g2 n2 c2 gt2 tn2 ct2, w'.heap[k]? = some (.cells (dR p2 (.slice (some ⟨g2, 0, none⟩) n2 c2) al2 m2 (.slice (some ⟨gt2, 0, none⟩) tn2 ct2) rf2) 112) ∧ G.OwnN w' B g2 n2 c2 l2 ∧ OwnU w' B gt2 tn2 ct2 t2 ∧ Below B w w' := by
 obtain ⟨⟨M, lo⟩, hM⟩ : ∃ y, allM m x.i.ks = y := ⟨_, rfl⟩
 obtain ⟨os, hos⟩ : ∃ os, lo ++ x.i.lo = os := ⟨_, rfl⟩
 obtain ⟨⟨P, r2, sb⟩, hT⟩ : ∃ y, takeL ⟨p, rf + x.i.lr, false⟩ os = y := ⟨_, rfl⟩
 obtain ⟨al3, hal⟩ : ∃ z, G.feelA true al x.i.b sb = z := ⟨_, rfl⟩
 obtain ⟨nn, hnn⟩ : ∃ z, (if true = true ∧ al3 = 0 then G.letG l P.wants else 0) = z := ⟨_, rfl⟩
 obtain ⟨P3, hP3⟩ : ∃ z, (if al3 = 0 then P.give nn else P) = z := ⟨_, rfl⟩
 obtain ⟨Y, hY⟩ : ∃ z, G.passL true l nn = z := ⟨_, rfl⟩
 have hFIN : tickD ⟨p, l, al, m, t, rf⟩ x.i = ⟨P3, Y, al3, M, t ++ [(nn, al3, P3.s)], r2⟩ := tickD_eqd (D := ⟨p, l, al, m, t, rf⟩) hM (by rw [hos]; exact hT) hal hnn hP3 hY
 rw [hR] at hFIN
 obtain ⟨rfl, rfl, rfl, rfl, rfl, rfl⟩ : P3 = p2 ∧ Y = l2 ∧ al3 = al2 ∧ M = m2 ∧ t ++ [(nn, al3, P3.s)] = t2 ∧ r2 = rf2 := by cases hFIN; exact ⟨rfl, rfl, rfl, rfl, rfl, rfl⟩
 clear hFIN hR
 have hok := takeL_ok os (x := ⟨p, rf + x.i.lr, false⟩) hD.p
 rw [hT] at hok
 have hPok : Hid P.ok := hok.1
 have hrd := hD.r
 dsimp only at hrd
 have hlr := hx.ic.2.2.2.1
 have HGD : Hid (G.GdR l al) := hD.g
 have HGM : Hid (GdM m) := hD.m
 have HPP : Hid p.ok := hD.p
 have HG2 : Hid (G.GdR l al3) := by show G.GdR l al3; rw [← hal]; exact G.feel_ok hD.g true x.i.b sb
 have HOSR : Hid (∀ o ∈ os, OrdR o.1 o.2.1 o.2.2.1 o.2.2.2) := by
  show ∀ o ∈ os, _
  rw [← hos]
  intro o ho
  rcases List.mem_append.1 ho with h | h
  ·
   have hh := allM_r x.i.ks m o
   rw [hM] at hh
   exact hh h
  · exact hx.ic.2.2.2.2 o h
 have hosl : os.length ≤ 21 := by
  rw [← hos, List.length_append]
  have h := allM_len x.i.ks m
  rw [hM] at h
  dsimp only at h
  have h2 := hx.ic.2.1
  have h3 := lo_len hx.ic
  omega
 have HM := aqTiI hM
 have HOS := aqTiI hos
 have HTK := aqTiI hT
 have HAL := aqTiI hal
 have HNN := aqTiI hnn
 have HP3 := aqTiI hP3
 have HY := aqTiI hY
 have HXO : Hid x.ok := hx
 have HLN : Hid (l.length = n) := hG.len
 have HTN : Hid (t.length = tn) := hU.len
 have hn9 : n ≤ 9 := by have h1 := hG.len; have h2 := hD.g.1; dsimp only at h2; omega
 obtain ⟨q, hq⟩ : ∃ q, os.length = q := ⟨_, rfl⟩
 rw [hq] at hosl
 have HQ := aqTiI hq
 obtain ⟨m2, hm2⟩ : ∃ z, Y.length = z := ⟨_, rfl⟩
 have HM2 := aqTiI hm2
 have hnw : 0 ≤ nn ∧ nn ≤ P.wants := by
  rw [← hnn]
  have h1 := wants_bd P
  have h2 := G.letG_bd hD.g P.wants
  split
  ·
   have hs := G.sumN_bd hD.g.2.2.1
   refine ⟨h2.1, ?_⟩
   unfold G.letG
   omega
  · omega
 have hx0 : rf + x.i.lr ≤ 999999900 := by omega
 have hx1 : 0 ≤ rf + x.i.lr := by omega
 clear hok hx hD hM hos hT hal hnn hP3 hY hq hm2 hlr
 have hk : k < w.heap.size := row_lt hX
 have HT0 := aqTiI ht
 have HG0 := aqTiI hG
 have HU0 := aqTiI hU
 have HX00 := aqTiI hX
 have hBw : B ≤ w.heap.size := by omega
 obtain ⟨W0, hW0⟩ : ∃ W0, (w.alloc (.cells #[.int .i64 x.i.b, .string x.K, .string x.L] 46)) = W0 := ⟨_, rfl⟩
 have HX0 : Hid (W0.heap[k]? = some (.cells (dR p (.slice (some ⟨g, 0, none⟩) n c) al m (.slice (some ⟨gt, 0, none⟩) tn ct) rf) 112)) := by rw [← hW0]; exact row_on hX (alM _ _)
 have HJ0 : Hid (W0.heap[w.heap.size]? = some (.cells #[.int .i64 x.i.b, .string x.K, .string x.L] 46)) := by rw [← hW0]; exact heap_new w _
 have HR0 : Hid (w.grownBy W0 (some k)) := by rw [← hW0]; exact grw_on (grw_refl _ _) (alM _ _)
 have i0 := box3i_cells HJ0.out
 clear ht hG hU hX
 go_enter Tryz.func31, Tryz.ntmps31
 go_upto_region 1 with fail
 (try rw [hW0])
 clear hW0
 go_wp2_with fail
 refine (ordersI k p (.slice (some ⟨g, 0, none⟩) n c) al m (.slice (some ⟨gt, 0, none⟩) tn ct) rf x HXO.out HGM.out M lo HM.out os q HOS.out HQ.out hrd (by omega) _ (tab_grw HT0.out HX00.out rfl HR0.out) HX0.out).mono ?_
 rintro e w1 ⟨A, c1, rfl, ho, hx', hg⟩
 have HX1 : Hid (w1.heap[k]? = some (.cells (dR p (.slice (some ⟨g, 0, none⟩) n c) al M (.slice (some ⟨gt, 0, none⟩) tn ct) (rf + x.i.lr)) 112)) := hx'
 have HJ1 : Hid (w1.heap[w.heap.size]? = some (.cells #[.int .i64 x.i.b, .string x.K, .string x.L] 46)) := row_grown HJ0.out hg (fun e => by have := Option.some.inj e; omega)
 have HR1 : Hid (w.grownBy w1 (some k)) := grw_trans HR0.out hg
 have HO1 := aqTiI ho
 clear ho hx' hg HX0 HJ0 HR0 i0
 go_wp2_with fail
 refine (takeAllI k p (.slice (some ⟨g, 0, none⟩) n c) al M (.slice (some ⟨gt, 0, none⟩) tn ct) (rf + x.i.lr) W0.heap.size A q c1 os HPP.out HOSR.out HQ.out (by omega) (by omega) (by omega) (by omega) P r2 sb HTK.out _ HX1.out HO1.out).mono ?_
 rintro e w2 ⟨rfl, hx', hg⟩
 have HX2 : Hid (w2.heap[k]? = some (.cells (dR P (.slice (some ⟨g, 0, none⟩) n c) al M (.slice (some ⟨gt, 0, none⟩) tn ct) r2) 112)) := hx'
 have HJ2 : Hid (w2.heap[w.heap.size]? = some (.cells #[.int .i64 x.i.b, .string x.K, .string x.L] 46)) := row_grown HJ1.out hg (fun e => by have := Option.some.inj e; omega)
 have HR2 : Hid (w.grownBy w2 (some k)) := grw_trans HR1.out hg
 have HG2' : Hid (G.OwnN w2 B g n c l) := own_grownM HG0.out HR2.out (fun i e e2 => own_ne HG0.out HX00.out (by decide) i e (Option.some.inj e2).symm)
 have HU2 : Hid (OwnU w2 B gt tn ct t) := own_grownM HU0.out HR2.out (fun i e e2 => own_ne HU0.out HX00.out (by decide) i e (Option.some.inj e2).symm)
 have HB2 : Hid (Below B w w2) := (Below.refl B w).grown HR2.out hBw (fun i e => by have := Option.some.inj e; omega)
 clear hx' hg HX1 HJ1 HR1 HR2 HO1 HG0 HU0
 go_upto_region 2 with fail
 go_cut [] (fun wd => ∃ (g2 c2 : Nat), w2.heap.size ≤ g2 ∧ Hid (w2.grownBy wd (some k)) ∧ Hid (wd.heap[k]? = some (.cells (dR P (.slice (some ⟨g2, 0, none⟩) n c2) al3 M (.slice (some ⟨gt, 0, none⟩) tn ct) r2) 112)) ∧ Hid (G.OwnN wd w2.heap.size g2 n c2 l))
 case first =>
  have HK1 : w2.drew.heap[w.heap.size]? = some (.cells #[.int .i64 x.i.b, .string x.K, .string x.L] 46) := HJ2.out
  refine wp_region_held_drew (S := fun w' => w'.heap[w.heap.size]? = some (.cells #[.int .i64 x.i.b, .string x.K, .string x.L] 46)) (by kernel_rfl) HK1 (fun hHeld => ?_)
  obtain ⟨v0, hv0⟩ : ∃ v0, w2.drew = v0 := ⟨_, rfl⟩
  have HX3 : Hid (v0.heap[k]? = some (.cells (dR P (.slice (some ⟨g, 0, none⟩) n c) al M (.slice (some ⟨gt, 0, none⟩) tn ct) r2) 112)) := by rw [← hv0]; exact HX2.out
  have HR3 : Hid (w2.grownBy v0 (some k)) := by rw [← hv0]; exact grw_drew (grw_refl _ _)
  rw [hv0] at HK1 hHeld ⊢
  clear hv0
  refine tkQ 0 ?_ rfl ?_ ?_
  rotate_left
  · intro w_ hSw; clear hSw; (try clear hHeld); go_simp <;> with_reducible rfl
  try simp only [Act.put, sQ]
  refine tkQ 1 ?_ rfl ?_ ?_
  rotate_left
  · intro w_ hSw; clear hSw; (try clear hHeld); go_simp <;> with_reducible rfl
  try simp only [Act.put, sQ]
  refine tkQ 2 ?_ rfl ?_ ?_
  rotate_left
  · intro w_ hSw; clear hSw; (try clear hHeld); go_simp <;> with_reducible rfl
  try simp only [Act.put, sQ]
  refine tkQ 3 ?_ rfl ?_ ?_
  rotate_left
  · intro w_ hSw; clear hSw; (try clear hHeld); go_simp <;> with_reducible rfl
  try simp only [Act.put, sQ]
  refine tkQ 5 ?_ rfl ?_ ?_
  rotate_left
  · intro w_ hSw; clear hSw; (try clear hHeld); go_simp <;> with_reducible rfl
  try simp only [Act.put, sQ]
  refine tkQ 6 ?_ rfl ?_ ?_
  rotate_left
  · intro w_ hSw; (try dsimp only at hSw); have f0 := box3i_cells hSw; clear hSw; (try clear hHeld); go_simp <;> with_reducible rfl
  try simp only [Act.put, sQ]
  refine tkQ 7 ?_ rfl ?_ ?_
  rotate_left
  · intro w_ hSw; clear hSw; (try clear hHeld); go_simp <;> with_reducible rfl
  try simp only [Act.put, sQ]
  refine wpAnyH_ready (rs := [4]) (by kernel_rfl) (by simp) ?_
  refine (AllReadyH.cons rfl (fun J hJ => ?_) AllReadyH.nil)
  have f0 := box17_cells HX3.out
  go_simp
  clear f0
  refine hJ.out _ _ HK1 (fun hHeld => ?_)
  clear hJ J
  try simp only [Act.put, sQ]
  refine wpAnyH_ready (rs := [8]) (by kernel_rfl) (by simp) ?_
  refine (AllReadyH.cons rfl (fun J hJ => ?_) AllReadyH.nil)
  go_simp
  go_at_call 81
  refine (G.feelI (some ⟨g, 0, none⟩) al l n c x.i.b sb true al3 HAL.out HLN.out (by omega) (fun e => by cases e) ⟨fun _ => HGD.out, fun _ => rfl⟩ _ (G.OwnN.rd (own_grownM HG2'.out HR3.out (fun i e e2 => own_ne HG2'.out HX2.out (by decide) i e (Option.some.inj e2).symm)))).mono ?_
  rintro e v1 ⟨g2, c2, rfl, hown, hbc⟩
  have HK2 := row_on HK1 hbc
  have hgs : w2.heap.size ≤ v0.heap.size := HR3.out.size
  have HX4 := rq HX3 hbc
  have HR4 : Hid (w2.grownBy v1 (some k)) := grw_on HR3.out hbc
  have HGN : Hid (G.OwnN v1 w2.heap.size g2 n c2 l) := hown.mono hgs
  clear hbc hown hgs HK1 HX3 HR3
  go_wp2_with fail
  refine hJ.out _ _ HK2 (fun hHeld => ?_)
  clear hJ J
  try simp only [Act.put, sQ]
  refine tkQ 9 ?_ rfl ?_ ?_
  rotate_left
  · intro w_ hSw; clear hSw; (try clear hHeld); go_simp <;> with_reducible rfl
  try simp only [Act.put, sQ]
  refine tkQ 10 ?_ rfl ?_ ?_
  rotate_left
  · intro w_ hSw; clear hSw; (try clear hHeld); go_simp <;> with_reducible rfl
  try simp only [Act.put, sQ]
  refine wpAnyH_ready (rs := [11]) (by kernel_rfl) (by simp) ?_
  refine (AllReadyH.cons rfl (fun J hJ => ?_) AllReadyH.nil)
  refine storeG_any rfl rfl _ _ _ rfl k (.slice (some ⟨g2, 0, none⟩) n c2) (.int .i64 al3) rfl rfl HX4.out (by kernel_rfl) (by kernel_rfl) ?_
  intro v9 hput
  have HX9 := aqTiI hput.1
  have HR9 : Hid (w2.grownBy v9 (some k)) := grw_put HR4.out hput
  have HG9 : Hid (G.OwnN v9 w2.heap.size g2 n c2 l) := own_putM HGN.out hput (own_ne HGN.out HX4.out (by decide))
  have hg2 : w2.heap.size ≤ g2 := HGN.out.ge
  have HK9 := hput.far HK2 (by omega)
  clear hput HX4 HR4 HGN HK2
  refine hJ.out _ _ HK9 (fun hHeld => ?_)
  clear hJ J HK9
  try simp only [Act.put, sQ]
  clear hHeld
  refine wpAnyH_done (by kernel_rfl) ?_ _
  (try go_wp2_with fail)
  go_meet
  exact ⟨g2, c2, hg2, HR9, HX9, HG9⟩
 case rest =>
  obtain ⟨g2, c2, hg2, HR, HX3, HGn⟩ := hcut
  have HJ3 : Hid (wc.heap[w.heap.size]? = some (.cells #[.int .i64 x.i.b, .string x.K, .string x.L] 46)) := row_grown HJ2.out HR.out (fun e => by have := Option.some.inj e; omega)
  have HU3 : Hid (OwnU wc B gt tn ct t) := own_grownM HU2.out HR.out (fun i e e2 => own_ne HU2.out HX2.out (by decide) i e (Option.some.inj e2).symm)
  have HB3 : Hid (Below B w wc) := HB2.out.grown HR.out (Nat.le_trans hBw HB2.out.size) (fun i e => by have := Option.some.inj e; omega)
  have hw2 : w.heap.size ≤ w2.heap.size := HB2.out.size
  have HG3 : Hid (G.OwnN wc B g2 n c2 l) := HGn.out.mono (by omega)
  clear HR HGn HX2 HJ2 HG2' HU2 HB2 HAL
  obtain ⟨w3, hw3⟩ : ∃ w3, wc = w3 := ⟨_, rfl⟩
  rw [hw3] at HX3 HJ3 HU3 HB3 HG3 ⊢
  clear hw3
  obtain ⟨F0, F1, F2, hSt⟩ := stateW P hPok.out
  have HST := aqTiI hSt
  clear hSt
  go_upto_region 3 with fail
  go_cut [5] (fun v5 wd => v5 = .int .i64 nn ∧ Hid (Below w3.heap.size w3 wd))
  case first =>
   have HK1 : KD w3 w3.drew k k (.cells (dR P (.slice (some ⟨g2, 0, none⟩) n c2) al3 M (.slice (some ⟨gt, 0, none⟩) tn ct) r2) 112) (.cells (dR P (.slice (some ⟨g2, 0, none⟩) n c2) al3 M (.slice (some ⟨gt, 0, none⟩) tn ct) r2) 112) := ⟨HX3.out, HX3.out, (Below.refl _ _).drew⟩
   refine wp_region_held_drew (S := fun w' => KD w3 w' k k (.cells (dR P (.slice (some ⟨g2, 0, none⟩) n c2) al3 M (.slice (some ⟨gt, 0, none⟩) tn ct) r2) 112) (.cells (dR P (.slice (some ⟨g2, 0, none⟩) n c2) al3 M (.slice (some ⟨gt, 0, none⟩) tn ct) r2) 112)) (by kernel_rfl) HK1 (fun hHeld => ?_)
   obtain ⟨v0, hv0⟩ : ∃ v0, w3.drew = v0 := ⟨_, rfl⟩
   rw [hv0] at HK1 hHeld ⊢
   clear hv0
   refine tkQ 0 ?_ rfl ?_ ?_
   rotate_left
   · intro w_ hSw; clear hSw; (try clear hHeld); go_simp <;> with_reducible rfl
   try simp only [Act.put, sQ]
   refine tkQ 1 ?_ rfl ?_ ?_
   rotate_left
   · intro w_ hSw; clear hSw; (try clear hHeld); go_simp <;> with_reducible rfl
   try simp only [Act.put, sQ]
   refine tkQ 2 ?_ rfl ?_ ?_
   rotate_left
   · intro w_ hSw; clear hSw; (try clear hHeld); go_simp <;> with_reducible rfl
   try simp only [Act.put, sQ]
   refine tkQ 3 ?_ rfl ?_ ?_
   rotate_left
   · intro w_ hSw; (try dsimp only at hSw); have f0 := box17_cells hSw.1; clear hSw; (try clear hHeld); go_simp <;> with_reducible rfl
   try simp only [Act.put, sQ]
   refine tkQ 4 ?_ rfl ?_ ?_
   rotate_left
   · intro w_ hSw; clear hSw; (try clear hHeld); go_simp <;> with_reducible rfl
   try simp only [Act.put, sQ]
   refine tkQ 5 ?_ rfl ?_ ?_
   rotate_left
   · intro w_ hSw; clear hSw; (try clear hHeld); go_simp <;> with_reducible rfl
   try simp only [Act.put, sQ]
   refine tkQ 6 ?_ rfl ?_ ?_
   rotate_left
   · intro w_ hSw; clear hSw; (try clear hHeld); go_simp <;> with_reducible rfl
   try simp only [Act.put, sQ]
   refine tkQ 7 ?_ rfl ?_ ?_
   rotate_left
   · intro w_ hSw; (try dsimp only at hSw); have f0 := box17_cells hSw.1; clear hSw; (try clear hHeld); go_simp <;> with_reducible rfl
   try simp only [Act.put, sQ]
   refine wpAnyH_ready (rs := [8]) (by kernel_rfl) (by simp) ?_
   refine (AllReadyH.cons rfl (fun J hJ => ?_) AllReadyH.nil)
   go_simp
   go_at_call 83
   refine (HST.out.st _).mono ?_
   rintro e v1 ⟨rfl, hbc⟩
   have HK2 := HK1.on hbc
   clear hbc HK1
   go_wp2_with fail
   refine hJ.out _ _ HK2 (fun hHeld => ?_)
   clear hJ J
   try simp only [Act.put, sQ]
   refine tkQ 9 ?_ rfl ?_ ?_
   rotate_left
   · intro w_ hSw; (try dsimp only at hSw); have g0 := fld1d; clear hSw; (try clear hHeld); go_simp <;> with_reducible rfl
   try simp only [Act.put, sQ]
   refine wpAnyH_ready (rs := [10]) (by kernel_rfl) (by simp) ?_
   refine (AllReadyH.cons rfl (fun J hJ => ?_) AllReadyH.nil)
   go_simp
   rw [HST.out.cp]
   show Calls Tryz.prog F1 _ _ _
   refine (HST.out.pu _).mono ?_
   rintro e v2 ⟨rfl, hbc⟩
   have HK3 := HK2.on hbc
   clear hbc HK2
   go_wp2_with fail
   refine hJ.out _ _ HK3 (fun hHeld => ?_)
   clear hJ J
   try simp only [Act.put, sQ]
   refine wpAnyH_ready (rs := [11]) (by kernel_rfl) (by simp) ?_
   refine (AllReadyH.cons rfl (fun J hJ => ?_) AllReadyH.nil)
   go_simp
   go_at_call 82
   refine (G.allowI (some ⟨g2, 0, none⟩) al3 l n c2 P.wants true nn HLN.out (by omega) ⟨fun _ => HG2.out, fun _ => rfl⟩ (by simpa using HNN.out) _ (HG3.out.rd.keep (HK3.2.2) (Nat.le_refl _))).mono ?_
   rintro e v3 ⟨rfl, hbc⟩
   have HK4 := HK3.on hbc
   clear hbc HK3
   go_wp2_with fail
   refine hJ.out _ _ HK4 (fun hHeld => ?_)
   clear hJ J
   try simp only [Act.put, sQ]
   refine tkQ 12 ?_ rfl ?_ ?_
   rotate_left
   · intro w_ hSw; clear hSw; (try clear hHeld); go_simp <;> with_reducible rfl
   try simp only [Act.put, sQ]
   clear hHeld
   refine wpAnyH_done (by kernel_rfl) ?_ _
   (try go_wp2_with fail)
   go_meet
   exact ⟨rfl, HK4.2.2⟩
  case rest =>
   obtain ⟨rfl, HBw⟩ := hcut
   obtain ⟨w4, hw4⟩ : ∃ w4, wc = w4 := ⟨_, rfl⟩
   rw [hw4] at HBw ⊢
   clear hw4
   have HX4 : Hid (w4.heap[k]? = some (.cells (dR P (.slice (some ⟨g2, 0, none⟩) n c2) al3 M (.slice (some ⟨gt, 0, none⟩) tn ct) r2) 112)) := row_on HX3.out HBw.out
   have HG4 : Hid (G.OwnN w4 B g2 n c2 l) := HG3.out.on HBw.out
   have HU4 : Hid (OwnU w4 B gt tn ct t) := HU3.out.on HBw.out
   have HB4 : Hid (Below B w w4) := bel_on hBw HB3.out HBw.out
   clear HBw HX3 HG3 HU3 HB3 HJ3 HNN
   have c4 := box17_cells HX4.out
   by_cases ha : al3 = 0
   ·
    have hP3' : P.give nn = P3 := by have h := HP3.out; rw [if_pos ha] at h; exact h
    have HGV : Hid (P.give nn = P3) := hP3'
    subst ha
    clear hP3' HP3
    go_wp2_with fail
    refine (HST.out.st _).mono ?_
    rintro e w5 ⟨rfl, hbc⟩
    have HX5 := rq HX4 hbc
    have HG5 := aqTiI (HG4.out.on hbc)
    have HU5 := aqTiI (HU4.out.on hbc)
    have HB5 : Hid (Below B w w5) := bel_on hBw HB4.out hbc
    clear hbc HX4 HG4 HU4 HB4 c4
    have g0 := fld2d
    have HCG := HST.out.cg
    go_wp2_with fail
    clear g0 HCG
    refine (HST.out.gv nn _ hnw.1 hnw.2).mono ?_
    rintro e w51 ⟨rfl, hbc⟩
    rw [HGV.out]
    have HX51 := rq HX5 hbc
    have HG51 := aqTiI (HG5.out.on hbc)
    have HU51 := aqTiI (HU5.out.on hbc)
    have HB51 : Hid (Below B w w51) := bel_on hBw HB5.out hbc
    clear hbc HX5 HG5 HU5 HB5
    unfold Pm.V PV
    dsimp only
    go_wp2_with (refine listPump rfl rfl _ _ _ rfl k (.int .i64 P3.s) (.int .i64 P3.n) (.int .i64 P3.d) (.int .i64 P3.r) (.int .i64 P3.l) (.int .i64 P3.b) (.int .i64 P3.g) (.int .i64 P3.k) rfl rfl HX51.out (by kernel_rfl) (by kernel_rfl) ?_)
    intro w52 hput
    have HX52 := aqTiI hput.1
    have HG52 : Hid (G.OwnN w52 B g2 n c2 l) := own_putM HG51.out hput (own_ne HG51.out HX51.out (by decide))
    have HU52 : Hid (OwnU w52 B gt tn ct t) := own_putM HU51.out hput (own_ne HU51.out HX51.out (by decide))
    have HB52 : Hid (Below B w w52) := hput.2.2.2 _ _ hBk HB51.out
    clear hput HX51 HG51 HU51 HB51
    have c52 := box17_cells HX52.out
    go_wp2_with fail
    refine (G.passI (some ⟨g2, 0, none⟩) 0 l n c2 nn true Y m2 HY.out HM2.out HLN.out (by omega) (fun e => by cases e) ⟨fun _ => HG2.out, fun _ => rfl⟩ _ HG52.out.rd).mono ?_
    rintro e w6 ⟨g3, c3, rfl, hown, hbc⟩
    have hBw52 : B ≤ w52.heap.size := Nat.le_trans hBw HB52.out.size
    have HX6 := rq HX52 hbc
    have HG6 : Hid (G.OwnN w6 B g3 m2 c3 Y) := hown.mono (by omega)
    have HU6 := aqTiI (HU52.out.on hbc)
    have HB6 : Hid (Below B w w6) := bel_on hBw HB52.out hbc
    clear hown hbc HX52 HG52 HU52 HB52 c52
    go_wp2_with (refine listGuard rfl rfl _ _ _ rfl k (.slice (some ⟨g3, 0, none⟩) m2 c3) (.int .i64 0) rfl rfl HX6.out (by kernel_rfl) (by kernel_rfl) ?_)
    intro w7 hput
    have HX7 := aqTiI hput.1
    have HG7 : Hid (G.OwnN w7 B g3 m2 c3 Y) := own_putM HG6.out hput (own_ne HG6.out HX6.out (by decide))
    have HU7 : Hid (OwnU w7 B gt tn ct t) := own_putM HU6.out hput (own_ne HU6.out HX6.out (by decide))
    have HB7 : Hid (Below B w w7) := hput.2.2.2 _ _ hBk HB6.out
    clear hput HX6 HG6 HU6 HB6
    go_upto_region 7 with fail
    have HK1 : KC w7.drew k (.int .i64 0) (.int .i64 P3.s) := kc_of HX7.out
    refine wp_region_held_drew (S := fun w' => KC w' k (.int .i64 0) (.int .i64 P3.s)) (by kernel_rfl) HK1 (fun hHeld => ?_)
    obtain ⟨v0, hv0⟩ : ∃ v0, w7.drew = v0 := ⟨_, rfl⟩
    have HX8 : Hid (v0.heap[k]? = some (.cells (dR P3 (.slice (some ⟨g3, 0, none⟩) m2 c3) 0 M (.slice (some ⟨gt, 0, none⟩) tn ct) r2) 112)) := by rw [← hv0]; exact HX7.out
    have HG8 : Hid (G.OwnN v0 B g3 m2 c3 Y) := by rw [← hv0]; exact HG7.out
    have HU8 : Hid (OwnU v0 B gt tn ct t) := by rw [← hv0]; exact HU7.out
    have HB8 : Hid (Below B w v0) := by rw [← hv0]; exact HB7.out.drew
    rw [hv0] at HK1 hHeld ⊢
    clear hv0 HX7 HG7 HU7 HB7
    have hBv : B ≤ v0.heap.size := Nat.le_trans hBw HB8.out.size
    refine tkQ 0 ?_ rfl ?_ ?_
    rotate_left
    · intro w_ hSw; clear hSw; (try clear hHeld); go_simp <;> with_reducible rfl
    try simp only [Act.put, sQ]
    refine tkQ 1 ?_ rfl ?_ ?_
    rotate_left
    · intro w_ hSw; clear hSw; (try clear hHeld); go_simp <;> with_reducible rfl
    try simp only [Act.put, sQ]
    refine tkQ 2 ?_ rfl ?_ ?_
    rotate_left
    · intro w_ hSw; clear hSw; (try clear hHeld); go_simp <;> with_reducible rfl
    try simp only [Act.put, sQ]
    refine tkQ 3 ?_ rfl ?_ ?_
    rotate_left
    · intro w_ hSw; clear hSw; (try clear hHeld); go_simp <;> with_reducible rfl
    try simp only [Act.put, sQ]
    refine tkQ 5 ?_ rfl ?_ ?_
    rotate_left
    · intro w_ hSw; clear hSw; (try clear hHeld); go_simp <;> with_reducible rfl
    try simp only [Act.put, sQ]
    refine tkQ 6 ?_ rfl ?_ ?_
    rotate_left
    · intro w_ hSw; clear hSw; (try clear hHeld); go_simp <;> with_reducible rfl
    try simp only [Act.put, sQ]
    refine tkQ 7 ?_ rfl ?_ ?_
    rotate_left
    · intro w_ hSw; clear hSw; (try clear hHeld); go_simp <;> with_reducible rfl
    try simp only [Act.put, sQ]
    refine tkQ 8 ?_ rfl ?_ ?_
    rotate_left
    · intro w_ hSw; clear hSw; (try clear hHeld); go_simp <;> with_reducible rfl
    try simp only [Act.put, sQ]
    refine tkQ 9 ?_ rfl ?_ ?_
    rotate_left
    · intro w_ hSw; clear hSw; (try clear hHeld); go_simp <;> with_reducible rfl
    try simp only [Act.put, sQ]
    refine tkQ 10 ?_ rfl ?_ ?_
    rotate_left
    · intro w_ hSw; (try dsimp only at hSw); have f0 := hSw.1; clear hSw; (try clear hHeld); go_simp <;> with_reducible rfl
    try simp only [Act.put, sQ]
    refine tkQ 11 ?_ rfl ?_ ?_
    rotate_left
    · intro w_ hSw; clear hSw; (try clear hHeld); go_simp <;> with_reducible rfl
    try simp only [Act.put, sQ]
    refine tkQ 12 ?_ rfl ?_ ?_
    rotate_left
    · intro w_ hSw; clear hSw; (try clear hHeld); go_simp <;> with_reducible rfl
    try simp only [Act.put, sQ]
    refine tkQ 13 ?_ rfl ?_ ?_
    rotate_left
    · intro w_ hSw; clear hSw; (try clear hHeld); go_simp <;> with_reducible rfl
    try simp only [Act.put, sQ]
    refine tkQ 14 ?_ rfl ?_ ?_
    rotate_left
    · intro w_ hSw; clear hSw; (try clear hHeld); go_simp <;> with_reducible rfl
    try simp only [Act.put, sQ]
    refine tkQ 15 ?_ rfl ?_ ?_
    rotate_left
    · intro w_ hSw; (try dsimp only at hSw); have f0 := hSw.2; clear hSw; (try clear hHeld); go_simp <;> with_reducible rfl
    try simp only [Act.put, sQ]
    refine tkQ 16 ?_ rfl ?_ ?_
    rotate_left
    · intro w_ hSw; clear hSw; (try clear hHeld); go_simp <;> with_reducible rfl
    try simp only [Act.put, sQ]
    refine wpAnyH_ready (rs := [4, 17]) (by kernel_rfl) (by simp) ?_
    refine (AllReadyH.cons rfl (fun J hJ => ?_) (AllReadyH.cons rfl (fun J hJ => ?_) AllReadyH.nil))
    ·
     have f0 := box17_cells HX8.out
     go_simp
     clear f0
     refine hJ.out _ _ HK1 (fun hHeld => ?_)
     clear hJ J
     try simp only [Act.put, sQ]
     refine wpAnyH_ready (rs := [17]) (by kernel_rfl) (by simp) ?_
     refine (AllReadyH.cons rfl (fun J hJ => ?_) AllReadyH.nil)
     go_simp
     have HX9 : Hid ((v0.alloc (.cells #[.int .i64 nn, .int .i64 0, .int .i64 P3.s] 64)).heap[k]? = some (.cells (dR P3 (.slice (some ⟨g3, 0, none⟩) m2 c3) 0 M (.slice (some ⟨gt, 0, none⟩) tn ct) r2) 112)) := row_on HX8.out (alM _ _)
     have HG9 : Hid (G.OwnN (v0.alloc (.cells #[.int .i64 nn, .int .i64 0, .int .i64 P3.s] 64)) B g3 m2 c3 Y) := HG8.out.on (alM _ _)
     have HU9 : Hid (OwnU (v0.alloc (.cells #[.int .i64 nn, .int .i64 0, .int .i64 P3.s] 64)) B gt tn ct t) := HU8.out.on (alM _ _)
     have HB9 : Hid (Below B w (v0.alloc (.cells #[.int .i64 nn, .int .i64 0, .int .i64 P3.s] 64))) := bel_on hBw HB8.out (alM _ _)
     have HY9 : Hid (RdY (v0.alloc (.cells #[.int .i64 nn, .int .i64 0, .int .i64 P3.s] 64)) (some ⟨v0.heap.size, 0, none⟩) [(nn, 0, P3.s)]) := (one_rowY v0 nn 0 P3.s).rd
     have HK2 : KC (v0.alloc (.cells #[.int .i64 nn, .int .i64 0, .int .i64 P3.s] 64)) k (.int .i64 0) (.int .i64 P3.s) := kc_of HX9.out
     refine hJ.out _ _ HK2 (fun hHeld => ?_)
     clear hJ J
     try simp only [Act.put, sQ]
     have hBz : B ≤ (v0.alloc (.cells #[.int .i64 nn, .int .i64 0, .int .i64 P3.s] 64)).heap.size := by simp; omega
     generalize v0.alloc (.cells #[.int .i64 nn, .int .i64 0, .int .i64 P3.s] 64) = v1 at *
     generalize v0.heap.size = z0 at *
     clear HX8 HG8 HU8 HB8 HK1
     refine wpAnyH_ready (rs := [18]) (by kernel_rfl) (by simp) ?_
     refine (AllReadyH.cons rfl (fun J hJ => ?_) AllReadyH.nil)
     refine appY_any rfl (.tmp 64) (.tmp 77) rfl B gt tn ct t (some ⟨z0, 0, none⟩) 1 1 [(nn, 0, P3.s)] rfl rfl HU9.out rfl (fun e => by cases e) HY9.out (by omega) hBz ?_
     intro gt9 ct9 v2 hown hgr
     have HX10 : Hid (v2.heap[k]? = some (.cells (dR P3 (.slice (some ⟨g3, 0, none⟩) m2 c3) 0 M (.slice (some ⟨gt, 0, none⟩) tn ct) r2) 112)) := row_grown HX9.out hgr (fun e => own_ne HU9.out HX9.out (by decide) gt rfl (Option.some.inj e))
     have HG10 : Hid (G.OwnN v2 B g3 m2 c3 Y) := own_grownM HG9.out hgr (fun i e e2 => two_ne HU9.out HG9.out (by decide) gt i rfl e (Option.some.inj e2))
     have HU10 := aqTiI hown
     have HB10 : Hid (Below B w v2) := HB9.out.grown hgr hBz (fun i e => by have := Option.some.inj e; have := HU9.out.ge; omega)
     have HK3 : KC v2 k (.int .i64 0) (.int .i64 P3.s) := kc_of HX10.out
     clear hown hgr HX9 HG9 HU9 HB9 HY9 HK2
     refine hJ.out _ _ HK3 (fun hHeld => ?_)
     clear hJ J
     try simp only [Act.put, sQ]
     refine tkQ 19 ?_ rfl ?_ ?_
     rotate_left
     · intro w_ hSw; clear hSw; (try clear hHeld); go_simp <;> with_reducible rfl
     try simp only [Act.put, sQ]
     refine tkQ 20 ?_ rfl ?_ ?_
     rotate_left
     · intro w_ hSw; clear hSw; (try clear hHeld); go_simp <;> with_reducible rfl
     try simp only [Act.put, sQ]
     refine wpAnyH_ready (rs := [21]) (by kernel_rfl) (by simp) ?_
     refine (AllReadyH.cons rfl (fun J hJ => ?_) AllReadyH.nil)
     refine storeU_any rfl rfl _ _ _ rfl rfl k 15 (tn + 1) ct9 (some ⟨gt9, 0, none⟩) rfl rfl HX10.out (by simp) ?_
     intro v3 hput
     have HX11 := aqTiI hput.1
     have HG11 : Hid (G.OwnN v3 B g3 m2 c3 Y) := own_putM HG10.out hput (own_ne HG10.out HX10.out (by decide))
     have HU11 : Hid (OwnU v3 B gt9 (tn + 1) ct9 (t ++ [(nn, 0, P3.s)])) := own_putM HU10.out hput (own_ne HU10.out HX10.out (by decide))
     have HB11 : Hid (Below B w v3) := hput.2.2.2 _ _ hBk HB10.out
     have HK4 : KC v3 k (.int .i64 0) (.int .i64 P3.s) := kc_of HX11.out
     clear hput HX10 HG10 HU10 HB10 HK3
     refine hJ.out _ _ HK4 (fun hHeld => ?_)
     clear hJ J HK4
     try simp only [Act.put, sQ]
     clear hHeld
     refine wpAnyH_done (by kernel_rfl) ?_ _
     go_wp2
     go_end0
     exact ⟨rfl, g3, m2, c3, gt9, tn + 1, ct9, HX11.out, HG11.out, HU11.out, HB11.out⟩
    ·
     go_simp
     have HX9 : Hid ((v0.alloc (.cells #[.int .i64 nn, .int .i64 0, .int .i64 P3.s] 64)).heap[k]? = some (.cells (dR P3 (.slice (some ⟨g3, 0, none⟩) m2 c3) 0 M (.slice (some ⟨gt, 0, none⟩) tn ct) r2) 112)) := row_on HX8.out (alM _ _)
     have HG9 : Hid (G.OwnN (v0.alloc (.cells #[.int .i64 nn, .int .i64 0, .int .i64 P3.s] 64)) B g3 m2 c3 Y) := HG8.out.on (alM _ _)
     have HU9 : Hid (OwnU (v0.alloc (.cells #[.int .i64 nn, .int .i64 0, .int .i64 P3.s] 64)) B gt tn ct t) := HU8.out.on (alM _ _)
     have HB9 : Hid (Below B w (v0.alloc (.cells #[.int .i64 nn, .int .i64 0, .int .i64 P3.s] 64))) := bel_on hBw HB8.out (alM _ _)
     have HY9 : Hid (RdY (v0.alloc (.cells #[.int .i64 nn, .int .i64 0, .int .i64 P3.s] 64)) (some ⟨v0.heap.size, 0, none⟩) [(nn, 0, P3.s)]) := (one_rowY v0 nn 0 P3.s).rd
     have HK2 : KC (v0.alloc (.cells #[.int .i64 nn, .int .i64 0, .int .i64 P3.s] 64)) k (.int .i64 0) (.int .i64 P3.s) := kc_of HX9.out
     refine hJ.out _ _ HK2 (fun hHeld => ?_)
     clear hJ J
     try simp only [Act.put, sQ]
     have hBz : B ≤ (v0.alloc (.cells #[.int .i64 nn, .int .i64 0, .int .i64 P3.s] 64)).heap.size := by simp; omega
     generalize v0.alloc (.cells #[.int .i64 nn, .int .i64 0, .int .i64 P3.s] 64) = v1 at *
     generalize v0.heap.size = z0 at *
     clear HX8 HG8 HU8 HB8 HK1
     refine wpAnyH_ready (rs := [4]) (by kernel_rfl) (by simp) ?_
     refine (AllReadyH.cons rfl (fun J hJ => ?_) AllReadyH.nil)
     have f0 := box17_cells HX9.out
     go_simp
     clear f0
     refine hJ.out _ _ HK2 (fun hHeld => ?_)
     clear hJ J
     try simp only [Act.put, sQ]
     refine wpAnyH_ready (rs := [18]) (by kernel_rfl) (by simp) ?_
     refine (AllReadyH.cons rfl (fun J hJ => ?_) AllReadyH.nil)
     refine appY_any rfl (.tmp 64) (.tmp 77) rfl B gt tn ct t (some ⟨z0, 0, none⟩) 1 1 [(nn, 0, P3.s)] rfl rfl HU9.out rfl (fun e => by cases e) HY9.out (by omega) hBz ?_
     intro gt9 ct9 v2 hown hgr
     have HX10 : Hid (v2.heap[k]? = some (.cells (dR P3 (.slice (some ⟨g3, 0, none⟩) m2 c3) 0 M (.slice (some ⟨gt, 0, none⟩) tn ct) r2) 112)) := row_grown HX9.out hgr (fun e => own_ne HU9.out HX9.out (by decide) gt rfl (Option.some.inj e))
     have HG10 : Hid (G.OwnN v2 B g3 m2 c3 Y) := own_grownM HG9.out hgr (fun i e e2 => two_ne HU9.out HG9.out (by decide) gt i rfl e (Option.some.inj e2))
     have HU10 := aqTiI hown
     have HB10 : Hid (Below B w v2) := HB9.out.grown hgr hBz (fun i e => by have := Option.some.inj e; have := HU9.out.ge; omega)
     have HK3 : KC v2 k (.int .i64 0) (.int .i64 P3.s) := kc_of HX10.out
     clear hown hgr HX9 HG9 HU9 HB9 HY9 HK2
     refine hJ.out _ _ HK3 (fun hHeld => ?_)
     clear hJ J
     try simp only [Act.put, sQ]
     refine tkQ 19 ?_ rfl ?_ ?_
     rotate_left
     · intro w_ hSw; clear hSw; (try clear hHeld); go_simp <;> with_reducible rfl
     try simp only [Act.put, sQ]
     refine tkQ 20 ?_ rfl ?_ ?_
     rotate_left
     · intro w_ hSw; clear hSw; (try clear hHeld); go_simp <;> with_reducible rfl
     try simp only [Act.put, sQ]
     refine wpAnyH_ready (rs := [21]) (by kernel_rfl) (by simp) ?_
     refine (AllReadyH.cons rfl (fun J hJ => ?_) AllReadyH.nil)
     refine storeU_any rfl rfl _ _ _ rfl rfl k 15 (tn + 1) ct9 (some ⟨gt9, 0, none⟩) rfl rfl HX10.out (by simp) ?_
     intro v3 hput
     have HX11 := aqTiI hput.1
     have HG11 : Hid (G.OwnN v3 B g3 m2 c3 Y) := own_putM HG10.out hput (own_ne HG10.out HX10.out (by decide))
     have HU11 : Hid (OwnU v3 B gt9 (tn + 1) ct9 (t ++ [(nn, 0, P3.s)])) := own_putM HU10.out hput (own_ne HU10.out HX10.out (by decide))
     have HB11 : Hid (Below B w v3) := hput.2.2.2 _ _ hBk HB10.out
     have HK4 : KC v3 k (.int .i64 0) (.int .i64 P3.s) := kc_of HX11.out
     clear hput HX10 HG10 HU10 HB10 HK3
     refine hJ.out _ _ HK4 (fun hHeld => ?_)
     clear hJ J HK4
     try simp only [Act.put, sQ]
     clear hHeld
     refine wpAnyH_done (by kernel_rfl) ?_ _
     go_wp2
     go_end0
     exact ⟨rfl, g3, m2, c3, gt9, tn + 1, ct9, HX11.out, HG11.out, HU11.out, HB11.out⟩
   ·
    have hP3' : P = P3 := by have h := HP3.out; rw [if_neg ha] at h; exact h
    have ha2 : (al3 == 0) = false := by simpa using ha
    subst hP3'
    clear HP3
    go_wp2_with fail
    refine (G.passI (some ⟨g2, 0, none⟩) al3 l n c2 nn true Y m2 HY.out HM2.out HLN.out (by omega) (fun e => by cases e) ⟨fun _ => HG2.out, fun _ => rfl⟩ _ HG4.out.rd).mono ?_
    rintro e w6 ⟨g3, c3, rfl, hown, hbc⟩
    have hBw4 : B ≤ w4.heap.size := Nat.le_trans hBw HB4.out.size
    have HX6 := rq HX4 hbc
    have HG6 : Hid (G.OwnN w6 B g3 m2 c3 Y) := hown.mono (by omega)
    have HU6 := aqTiI (HU4.out.on hbc)
    have HB6 : Hid (Below B w w6) := bel_on hBw HB4.out hbc
    clear hown hbc HX4 HG4 HU4 HB4 c4
    go_wp2_with (refine listGuard rfl rfl _ _ _ rfl k (.slice (some ⟨g3, 0, none⟩) m2 c3) (.int .i64 al3) rfl rfl HX6.out (by kernel_rfl) (by kernel_rfl) ?_)
    intro w7 hput
    have HX7 := aqTiI hput.1
    have HG7 : Hid (G.OwnN w7 B g3 m2 c3 Y) := own_putM HG6.out hput (own_ne HG6.out HX6.out (by decide))
    have HU7 : Hid (OwnU w7 B gt tn ct t) := own_putM HU6.out hput (own_ne HU6.out HX6.out (by decide))
    have HB7 : Hid (Below B w w7) := hput.2.2.2 _ _ hBk HB6.out
    clear hput HX6 HG6 HU6 HB6
    go_upto_region 7 with fail
    have HK1 : KC w7.drew k (.int .i64 al3) (.int .i64 P.s) := kc_of HX7.out
    refine wp_region_held_drew (S := fun w' => KC w' k (.int .i64 al3) (.int .i64 P.s)) (by kernel_rfl) HK1 (fun hHeld => ?_)
    obtain ⟨v0, hv0⟩ : ∃ v0, w7.drew = v0 := ⟨_, rfl⟩
    have HX8 : Hid (v0.heap[k]? = some (.cells (dR P (.slice (some ⟨g3, 0, none⟩) m2 c3) al3 M (.slice (some ⟨gt, 0, none⟩) tn ct) r2) 112)) := by rw [← hv0]; exact HX7.out
    have HG8 : Hid (G.OwnN v0 B g3 m2 c3 Y) := by rw [← hv0]; exact HG7.out
    have HU8 : Hid (OwnU v0 B gt tn ct t) := by rw [← hv0]; exact HU7.out
    have HB8 : Hid (Below B w v0) := by rw [← hv0]; exact HB7.out.drew
    rw [hv0] at HK1 hHeld ⊢
    clear hv0 HX7 HG7 HU7 HB7
    have hBv : B ≤ v0.heap.size := Nat.le_trans hBw HB8.out.size
    refine tkQ 0 ?_ rfl ?_ ?_
    rotate_left
    · intro w_ hSw; clear hSw; (try clear hHeld); go_simp <;> with_reducible rfl
    try simp only [Act.put, sQ]
    refine tkQ 1 ?_ rfl ?_ ?_
    rotate_left
    · intro w_ hSw; clear hSw; (try clear hHeld); go_simp <;> with_reducible rfl
    try simp only [Act.put, sQ]
    refine tkQ 2 ?_ rfl ?_ ?_
    rotate_left
    · intro w_ hSw; clear hSw; (try clear hHeld); go_simp <;> with_reducible rfl
    try simp only [Act.put, sQ]
    refine tkQ 3 ?_ rfl ?_ ?_
    rotate_left
    · intro w_ hSw; clear hSw; (try clear hHeld); go_simp <;> with_reducible rfl
    try simp only [Act.put, sQ]
    refine tkQ 5 ?_ rfl ?_ ?_
    rotate_left
    · intro w_ hSw; clear hSw; (try clear hHeld); go_simp <;> with_reducible rfl
    try simp only [Act.put, sQ]
    refine tkQ 6 ?_ rfl ?_ ?_
    rotate_left
    · intro w_ hSw; clear hSw; (try clear hHeld); go_simp <;> with_reducible rfl
    try simp only [Act.put, sQ]
    refine tkQ 7 ?_ rfl ?_ ?_
    rotate_left
    · intro w_ hSw; clear hSw; (try clear hHeld); go_simp <;> with_reducible rfl
    try simp only [Act.put, sQ]
    refine tkQ 8 ?_ rfl ?_ ?_
    rotate_left
    · intro w_ hSw; clear hSw; (try clear hHeld); go_simp <;> with_reducible rfl
    try simp only [Act.put, sQ]
    refine tkQ 9 ?_ rfl ?_ ?_
    rotate_left
    · intro w_ hSw; clear hSw; (try clear hHeld); go_simp <;> with_reducible rfl
    try simp only [Act.put, sQ]
    refine tkQ 10 ?_ rfl ?_ ?_
    rotate_left
    · intro w_ hSw; (try dsimp only at hSw); have f0 := hSw.1; clear hSw; (try clear hHeld); go_simp <;> with_reducible rfl
    try simp only [Act.put, sQ]
    refine tkQ 11 ?_ rfl ?_ ?_
    rotate_left
    · intro w_ hSw; clear hSw; (try clear hHeld); go_simp <;> with_reducible rfl
    try simp only [Act.put, sQ]
    refine tkQ 12 ?_ rfl ?_ ?_
    rotate_left
    · intro w_ hSw; clear hSw; (try clear hHeld); go_simp <;> with_reducible rfl
    try simp only [Act.put, sQ]
    refine tkQ 13 ?_ rfl ?_ ?_
    rotate_left
    · intro w_ hSw; clear hSw; (try clear hHeld); go_simp <;> with_reducible rfl
    try simp only [Act.put, sQ]
    refine tkQ 14 ?_ rfl ?_ ?_
    rotate_left
    · intro w_ hSw; clear hSw; (try clear hHeld); go_simp <;> with_reducible rfl
    try simp only [Act.put, sQ]
    refine tkQ 15 ?_ rfl ?_ ?_
    rotate_left
    · intro w_ hSw; (try dsimp only at hSw); have f0 := hSw.2; clear hSw; (try clear hHeld); go_simp <;> with_reducible rfl
    try simp only [Act.put, sQ]
    refine tkQ 16 ?_ rfl ?_ ?_
    rotate_left
    · intro w_ hSw; clear hSw; (try clear hHeld); go_simp <;> with_reducible rfl
    try simp only [Act.put, sQ]
    refine wpAnyH_ready (rs := [4, 17]) (by kernel_rfl) (by simp) ?_
    refine (AllReadyH.cons rfl (fun J hJ => ?_) (AllReadyH.cons rfl (fun J hJ => ?_) AllReadyH.nil))
    ·
     have f0 := box17_cells HX8.out
     go_simp
     clear f0
     refine hJ.out _ _ HK1 (fun hHeld => ?_)
     clear hJ J
     try simp only [Act.put, sQ]
     refine wpAnyH_ready (rs := [17]) (by kernel_rfl) (by simp) ?_
     refine (AllReadyH.cons rfl (fun J hJ => ?_) AllReadyH.nil)
     go_simp
     have HX9 : Hid ((v0.alloc (.cells #[.int .i64 nn, .int .i64 al3, .int .i64 P.s] 64)).heap[k]? = some (.cells (dR P (.slice (some ⟨g3, 0, none⟩) m2 c3) al3 M (.slice (some ⟨gt, 0, none⟩) tn ct) r2) 112)) := row_on HX8.out (alM _ _)
     have HG9 : Hid (G.OwnN (v0.alloc (.cells #[.int .i64 nn, .int .i64 al3, .int .i64 P.s] 64)) B g3 m2 c3 Y) := HG8.out.on (alM _ _)
     have HU9 : Hid (OwnU (v0.alloc (.cells #[.int .i64 nn, .int .i64 al3, .int .i64 P.s] 64)) B gt tn ct t) := HU8.out.on (alM _ _)
     have HB9 : Hid (Below B w (v0.alloc (.cells #[.int .i64 nn, .int .i64 al3, .int .i64 P.s] 64))) := bel_on hBw HB8.out (alM _ _)
     have HY9 : Hid (RdY (v0.alloc (.cells #[.int .i64 nn, .int .i64 al3, .int .i64 P.s] 64)) (some ⟨v0.heap.size, 0, none⟩) [(nn, al3, P.s)]) := (one_rowY v0 nn al3 P.s).rd
     have HK2 : KC (v0.alloc (.cells #[.int .i64 nn, .int .i64 al3, .int .i64 P.s] 64)) k (.int .i64 al3) (.int .i64 P.s) := kc_of HX9.out
     refine hJ.out _ _ HK2 (fun hHeld => ?_)
     clear hJ J
     try simp only [Act.put, sQ]
     have hBz : B ≤ (v0.alloc (.cells #[.int .i64 nn, .int .i64 al3, .int .i64 P.s] 64)).heap.size := by simp; omega
     generalize v0.alloc (.cells #[.int .i64 nn, .int .i64 al3, .int .i64 P.s] 64) = v1 at *
     generalize v0.heap.size = z0 at *
     clear HX8 HG8 HU8 HB8 HK1
     refine wpAnyH_ready (rs := [18]) (by kernel_rfl) (by simp) ?_
     refine (AllReadyH.cons rfl (fun J hJ => ?_) AllReadyH.nil)
     refine appY_any rfl (.tmp 64) (.tmp 77) rfl B gt tn ct t (some ⟨z0, 0, none⟩) 1 1 [(nn, al3, P.s)] rfl rfl HU9.out rfl (fun e => by cases e) HY9.out (by omega) hBz ?_
     intro gt9 ct9 v2 hown hgr
     have HX10 : Hid (v2.heap[k]? = some (.cells (dR P (.slice (some ⟨g3, 0, none⟩) m2 c3) al3 M (.slice (some ⟨gt, 0, none⟩) tn ct) r2) 112)) := row_grown HX9.out hgr (fun e => own_ne HU9.out HX9.out (by decide) gt rfl (Option.some.inj e))
     have HG10 : Hid (G.OwnN v2 B g3 m2 c3 Y) := own_grownM HG9.out hgr (fun i e e2 => two_ne HU9.out HG9.out (by decide) gt i rfl e (Option.some.inj e2))
     have HU10 := aqTiI hown
     have HB10 : Hid (Below B w v2) := HB9.out.grown hgr hBz (fun i e => by have := Option.some.inj e; have := HU9.out.ge; omega)
     have HK3 : KC v2 k (.int .i64 al3) (.int .i64 P.s) := kc_of HX10.out
     clear hown hgr HX9 HG9 HU9 HB9 HY9 HK2
     refine hJ.out _ _ HK3 (fun hHeld => ?_)
     clear hJ J
     try simp only [Act.put, sQ]
     refine tkQ 19 ?_ rfl ?_ ?_
     rotate_left
     · intro w_ hSw; clear hSw; (try clear hHeld); go_simp <;> with_reducible rfl
     try simp only [Act.put, sQ]
     refine tkQ 20 ?_ rfl ?_ ?_
     rotate_left
     · intro w_ hSw; clear hSw; (try clear hHeld); go_simp <;> with_reducible rfl
     try simp only [Act.put, sQ]
     refine wpAnyH_ready (rs := [21]) (by kernel_rfl) (by simp) ?_
     refine (AllReadyH.cons rfl (fun J hJ => ?_) AllReadyH.nil)
     refine storeU_any rfl rfl _ _ _ rfl rfl k 15 (tn + 1) ct9 (some ⟨gt9, 0, none⟩) rfl rfl HX10.out (by simp) ?_
     intro v3 hput
     have HX11 := aqTiI hput.1
     have HG11 : Hid (G.OwnN v3 B g3 m2 c3 Y) := own_putM HG10.out hput (own_ne HG10.out HX10.out (by decide))
     have HU11 : Hid (OwnU v3 B gt9 (tn + 1) ct9 (t ++ [(nn, al3, P.s)])) := own_putM HU10.out hput (own_ne HU10.out HX10.out (by decide))
     have HB11 : Hid (Below B w v3) := hput.2.2.2 _ _ hBk HB10.out
     have HK4 : KC v3 k (.int .i64 al3) (.int .i64 P.s) := kc_of HX11.out
     clear hput HX10 HG10 HU10 HB10 HK3
     refine hJ.out _ _ HK4 (fun hHeld => ?_)
     clear hJ J HK4
     try simp only [Act.put, sQ]
     clear hHeld
     refine wpAnyH_done (by kernel_rfl) ?_ _
     go_wp2
     go_end0
     exact ⟨rfl, g3, m2, c3, gt9, tn + 1, ct9, HX11.out, HG11.out, HU11.out, HB11.out⟩
    ·
     go_simp
     have HX9 : Hid ((v0.alloc (.cells #[.int .i64 nn, .int .i64 al3, .int .i64 P.s] 64)).heap[k]? = some (.cells (dR P (.slice (some ⟨g3, 0, none⟩) m2 c3) al3 M (.slice (some ⟨gt, 0, none⟩) tn ct) r2) 112)) := row_on HX8.out (alM _ _)
     have HG9 : Hid (G.OwnN (v0.alloc (.cells #[.int .i64 nn, .int .i64 al3, .int .i64 P.s] 64)) B g3 m2 c3 Y) := HG8.out.on (alM _ _)
     have HU9 : Hid (OwnU (v0.alloc (.cells #[.int .i64 nn, .int .i64 al3, .int .i64 P.s] 64)) B gt tn ct t) := HU8.out.on (alM _ _)
     have HB9 : Hid (Below B w (v0.alloc (.cells #[.int .i64 nn, .int .i64 al3, .int .i64 P.s] 64))) := bel_on hBw HB8.out (alM _ _)
     have HY9 : Hid (RdY (v0.alloc (.cells #[.int .i64 nn, .int .i64 al3, .int .i64 P.s] 64)) (some ⟨v0.heap.size, 0, none⟩) [(nn, al3, P.s)]) := (one_rowY v0 nn al3 P.s).rd
     have HK2 : KC (v0.alloc (.cells #[.int .i64 nn, .int .i64 al3, .int .i64 P.s] 64)) k (.int .i64 al3) (.int .i64 P.s) := kc_of HX9.out
     refine hJ.out _ _ HK2 (fun hHeld => ?_)
     clear hJ J
     try simp only [Act.put, sQ]
     have hBz : B ≤ (v0.alloc (.cells #[.int .i64 nn, .int .i64 al3, .int .i64 P.s] 64)).heap.size := by simp; omega
     generalize v0.alloc (.cells #[.int .i64 nn, .int .i64 al3, .int .i64 P.s] 64) = v1 at *
     generalize v0.heap.size = z0 at *
     clear HX8 HG8 HU8 HB8 HK1
     refine wpAnyH_ready (rs := [4]) (by kernel_rfl) (by simp) ?_
     refine (AllReadyH.cons rfl (fun J hJ => ?_) AllReadyH.nil)
     have f0 := box17_cells HX9.out
     go_simp
     clear f0
     refine hJ.out _ _ HK2 (fun hHeld => ?_)
     clear hJ J
     try simp only [Act.put, sQ]
     refine wpAnyH_ready (rs := [18]) (by kernel_rfl) (by simp) ?_
     refine (AllReadyH.cons rfl (fun J hJ => ?_) AllReadyH.nil)
     refine appY_any rfl (.tmp 64) (.tmp 77) rfl B gt tn ct t (some ⟨z0, 0, none⟩) 1 1 [(nn, al3, P.s)] rfl rfl HU9.out rfl (fun e => by cases e) HY9.out (by omega) hBz ?_
     intro gt9 ct9 v2 hown hgr
     have HX10 : Hid (v2.heap[k]? = some (.cells (dR P (.slice (some ⟨g3, 0, none⟩) m2 c3) al3 M (.slice (some ⟨gt, 0, none⟩) tn ct) r2) 112)) := row_grown HX9.out hgr (fun e => own_ne HU9.out HX9.out (by decide) gt rfl (Option.some.inj e))
     have HG10 : Hid (G.OwnN v2 B g3 m2 c3 Y) := own_grownM HG9.out hgr (fun i e e2 => two_ne HU9.out HG9.out (by decide) gt i rfl e (Option.some.inj e2))
     have HU10 := aqTiI hown
     have HB10 : Hid (Below B w v2) := HB9.out.grown hgr hBz (fun i e => by have := Option.some.inj e; have := HU9.out.ge; omega)
     have HK3 : KC v2 k (.int .i64 al3) (.int .i64 P.s) := kc_of HX10.out
     clear hown hgr HX9 HG9 HU9 HB9 HY9 HK2
     refine hJ.out _ _ HK3 (fun hHeld => ?_)
     clear hJ J
     try simp only [Act.put, sQ]
     refine tkQ 19 ?_ rfl ?_ ?_
     rotate_left
     · intro w_ hSw; clear hSw; (try clear hHeld); go_simp <;> with_reducible rfl
     try simp only [Act.put, sQ]
     refine tkQ 20 ?_ rfl ?_ ?_
     rotate_left
     · intro w_ hSw; clear hSw; (try clear hHeld); go_simp <;> with_reducible rfl
     try simp only [Act.put, sQ]
     refine wpAnyH_ready (rs := [21]) (by kernel_rfl) (by simp) ?_
     refine (AllReadyH.cons rfl (fun J hJ => ?_) AllReadyH.nil)
     refine storeU_any rfl rfl _ _ _ rfl rfl k 15 (tn + 1) ct9 (some ⟨gt9, 0, none⟩) rfl rfl HX10.out (by simp) ?_
     intro v3 hput
     have HX11 := aqTiI hput.1
     have HG11 : Hid (G.OwnN v3 B g3 m2 c3 Y) := own_putM HG10.out hput (own_ne HG10.out HX10.out (by decide))
     have HU11 : Hid (OwnU v3 B gt9 (tn + 1) ct9 (t ++ [(nn, al3, P.s)])) := own_putM HU10.out hput (own_ne HU10.out HX10.out (by decide))
     have HB11 : Hid (Below B w v3) := hput.2.2.2 _ _ hBk HB10.out
     have HK4 : KC v3 k (.int .i64 al3) (.int .i64 P.s) := kc_of HX11.out
     clear hput HX10 HG10 HU10 HB10 HK3
     refine hJ.out _ _ HK4 (fun hHeld => ?_)
     clear hJ J HK4
     try simp only [Act.put, sQ]
     clear hHeld
     refine wpAnyH_done (by kernel_rfl) ?_ _
     go_wp2
     go_end0
     exact ⟨rfl, g3, m2, c3, gt9, tn + 1, ct9, HX11.out, HG11.out, HU11.out, HB11.out⟩
end Go.Proofs.YtfhhnelffldggaaGreatDoor
