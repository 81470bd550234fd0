/-
  TickDevice of the specification.
-/
import Derived.Test.YtfhhnelffldggaaGreatDoorUqAC
import Derived.Test.YtfhhnelffldggaaGreatDoorUqBJ
set_option maxRecDepth 100000
set_option maxHeartbeats 16000000
namespace Go.Proofs.YtfhhnelffldggaaGreatDoor
open Go.RowKit Go.PlainAid
set_option linter.unusedVariables false
set_option linter.unusedSimpArgs false
theorem aqTdS2 {p : Prop} (h : p) : Hid p := h
theorem own_neT {w : World} {B e z n k : Nat} {v : Value} {xs : List Value} {cs : Array Value} {T : TypeId} {fr : Nat × Nat} (h : w.ownsRow B e z v n xs) (hr : w.heap[k]? = some (.cells cs T fr)) (hT : e ≠ T) : ∀ g, v.ownBlock = some g → g ≠ k := by
 intro g hg e1
 subst e1
 rcases h.2 with ⟨hv, _⟩ | ⟨g', cap, cur, hv, _, hh, _⟩
 · subst hv; cases hg
 ·
  subst hv
  cases hg
  rw [hh] at hr
  cases hr
  exact hT rfl
theorem tickS (p : Pm) (a : Option Addr) (n cap : Nat) (al : Int) (m : Mn) (ta : Option Addr) (tn tc : Nat) (rf : Int) (l : List Int) (t : List Tk3) (x : Inp) (hx : x.ok) (hD : Dv.ok ⟨p, l, al, m, t, rf⟩) (hl : l.length = n) (ha : a = none → n = 0 ∧ cap = 0) (ht : t.length = tn) (htn : tn < 200) (hta : ta = none → tn = 0 ∧ tc = 0) (hrf : rf ≤ 999999900) (D2 : Dv) (hD2 : tickD ⟨p, l, al, m, t, rf⟩ x.i = D2) (w : World) (hr : G.Rd w a l) (hrt : RdY w ta t) :
  Calls Tryz.prog 17 #[.agg #[.int .i64 p.s, .int .i64 p.n, .int .i64 p.d, .int .i64 p.r, .int .i64 p.l, .int .i64 p.b, .int .i64 p.g, .int .i64 p.k, .slice a n cap, .int .i64 al, .int .i64 m.a, .bool m.b, .int .i64 m.n, .int .i64 m.d, .string ⟨m.s.toArray⟩, .slice ta tn tc, .int .i64 rf], x.V] w fun e w' => ∃ g c n2 gt ct, e = .returned (.agg (DRow D2.p (some ⟨g, 0, none⟩) n2 c D2.al D2.m (some ⟨gt, 0, none⟩) (tn + 1) ct D2.rf)) ∧ G.OwnN w' w.heap.size g n2 c D2.l ∧ OwnU w' w.heap.size gt (tn + 1) ct D2.t ∧ Below w.heap.size w w' := by
 have HL := aqTdS2 hl
 have HT := aqTdS2 ht
 have HA := aqTdS2 ha
 have HTA := aqTdS2 hta
 have HRL := aqTdS2 hr
 have HRT := aqTdS2 hrt
 have HXO : Hid x.ok := hx
 have HDO := aqTdS2 hD
 have HD2 := aqTdS2 hD2
 have hn9 : n ≤ 9 := by have := hD.g.1; dsimp only at this; omega
 have hal : 0 ≤ al ∧ al ≤ 15 := hD.g.2.1
 have hrf0 : 0 ≤ rf := hD.r
 have hb15 := hx.2.2.1
 have HGd : Hid (G.GdR l al) := hD.g
 have HPo : Hid p.ok := hD.p
 have HMo : Hid (okM m = true) := hD.m.1
 have HDV : Hid (devB true true true tn rf = true) := by show _ = _; unfold devB; simp; omega
 have HIN : Hid (decide ((0 ≤ x.i.b ∧ x.i.b ≤ 15) ∧ x.K.size ≤ 20 ∧ x.L.size ≤ 40) = true) := decide_eq_true ⟨hx.2.2.1, hx.2.2.2.1, hx.2.2.2.2⟩
 have HKS : Hid ((⟨x.i.ks.toArray⟩ : ByteArray) = x.K) := hx.1
 have hks : x.i.ks.length ≤ 20 := by have h1 := txt_size hx.1; have h2 := hx.2.2.2.1; omega
 have hLs : x.L.size ≤ 40 := hx.2.2.2.2
 have HP0 : Hid (PT w (((w.alloc (dO p (.slice a n cap) al m (.slice ta tn tc) rf)).alloc (.cells #[.int .i64 x.i.b, .string x.K, .string x.L] 46)).alloc (dZ)) (dO p (.slice a n cap) al m (.slice ta tn tc) rf) (.cells #[.int .i64 x.i.b, .string x.K, .string x.L] 46) (dZ)) := al3_row _ _ _ _
 have HR0 : Hid (G.Rd (((w.alloc (dO p (.slice a n cap) al m (.slice ta tn tc) rf)).alloc (.cells #[.int .i64 x.i.b, .string x.K, .string x.L] 46)).alloc (dZ)) a l) := hr.keep HP0.out.b (Nat.le_refl _)
 have HY0 : Hid (RdY (((w.alloc (dO p (.slice a n cap) al m (.slice ta tn tc) rf)).alloc (.cells #[.int .i64 x.i.b, .string x.K, .string x.L] 46)).alloc (dZ)) ta t) := hrt.on HP0.out.b
 clear hl ht ha hta hr hrt hx hD hD2
 unfold Inp.V
 go_enter Tryz.func17, Tryz.ntmps17
 go_wp2_with (refine wpList_load_row rfl _ _ rfl w.heap.size rfl _ _ _ _ HP0.out.d Tryz.underlying37 rfl (by kernel_rfl) ?_)
 refine (dcopyS p a n cap al m ta tn tc rf l t HL.out (by omega) HA.out HT.out (by omega) HTA.out _ HR0.out HY0.out).mono ?_
 rintro e w1 ⟨g1, c1, gt, ct, rfl, _, hu, hb⟩
 have HP1 := aqTdS2 (HP0.out.on hb)
 have HU1 : Hid (OwnU w1 (w.heap.size + 3) gt tn ct t) := own_mono hu (by simp)
 clear hu hb HP0 HR0 HY0
 have HP2 : Hid (PT w (w1.alloc (dO p (.slice (some ⟨g1, 0, none⟩) n c1) al m (.slice (some ⟨gt, 0, none⟩) tn ct) rf)) (dO p (.slice a n cap) al m (.slice ta tn tc) rf) (.cells #[.int .i64 x.i.b, .string x.K, .string x.L] 46) (dZ)) := HP1.out.on (alM _ _)
 have HU2 : Hid (OwnU (w1.alloc (dO p (.slice (some ⟨g1, 0, none⟩) n c1) al m (.slice (some ⟨gt, 0, none⟩) tn ct) rf)) (w.heap.size + 3) gt tn ct t) := HU1.out.on (alM _ _)
 have HX2 : Hid ((w1.alloc (dO p (.slice (some ⟨g1, 0, none⟩) n c1) al m (.slice (some ⟨gt, 0, none⟩) tn ct) rf)).heap[w1.heap.size]? = some (dO p (.slice (some ⟨g1, 0, none⟩) n c1) al m (.slice (some ⟨gt, 0, none⟩) tn ct) rf)) := heap_new w1 _
 have hX : w.heap.size + 2 < w1.heap.size := HP1.out.lt
 have hgX : gt < w1.heap.size := HU1.out.lt
 clear HP1 HU1
 go_upto_region 2 with fail
 generalize w1.alloc (dO p (.slice (some ⟨g1, 0, none⟩) n c1) al m (.slice (some ⟨gt, 0, none⟩) tn ct) rf) = w2 at *
 generalize w1.heap.size = X at *
 have HR2 : Hid (G.Rd w2 a l) := HRL.out.keep HP2.out.b (Nat.le_refl _)
 go_wp2_with (refine wpList_load_row rfl _ _ rfl w.heap.size rfl _ _ _ _ HP2.out.d Tryz.underlying37 rfl (by kernel_rfl) ?_)
 refine (deviceokS p a n cap l al m ta tn tc rf true true true ⟨fun _ => HPo.out, fun _ => rfl⟩ ⟨fun _ => HGd.out, fun _ => rfl⟩ HMo.out true HDV.out HL.out (by omega) (by omega) _ HR2.out).mono ?_
 rintro e w3 ⟨rfl, hb⟩
 have HP3 := aqTdS2 (HP2.out.on hb)
 have HU3 := aqTdS2 (HU2.out.on hb)
 have HX3 := rq HX2 hb
 clear hb HP2 HU2 HX2 HR2
 have i3 := box3_cells' HP3.out.i
 go_wp2_with fail
 refine (inokS x.i.b x.K x.L true HIN.out _).mono ?_
 rintro e w4 ⟨rfl, hb⟩
 have HP4 := aqTdS2 (HP3.out.on hb)
 have HU4 := aqTdS2 (HU3.out.on hb)
 have HX4 := rq HX3 hb
 clear hb HP3 HU3 HX3 i3
 have c4 := box17_cells HP4.out.d
 have i4 := box3_cells' HP4.out.i
 have q200 : ((tn : Int) == 200) = false := by simp; omega
 have qrf : ¬ (999999900 < rf) := by omega
 obtain ⟨⟨M, l2⟩, hR⟩ : ∃ R, allM m x.i.ks = R := ⟨_, rfl⟩
 obtain ⟨q, hq⟩ : ∃ q, l2.length = q := ⟨_, rfl⟩
 have HRA := aqTdS2 hR
 have HQ := aqTdS2 hq
 have hq20 : q ≤ 20 := by have h := allM_len x.i.ks m; rw [hR] at h; dsimp only at h; omega
 clear hR hq
 go_wp2_with fail
 refine (pressAllS' m x.i.ks x.K HKS.out M l2 q HRA.out HQ.out (by omega) _).mono ?_
 rintro e w5 ⟨g2, c2, rfl, ho, hb⟩
 have hs5 := HP4.out.lt
 have HP5 := aqTdS2 (HP4.out.on hb)
 have HU5 := aqTdS2 (HU4.out.on hb)
 have HX5 := rq HX4 hb
 have HO5 : Hid (OwnA w5 (w.heap.size + 3) (some ⟨g2, 0, none⟩) q c2 l2) := (ho.mono (by omega)).any
 clear ho hb HP4 HU4 HX4 c4 i4 hs5 q200 qrf
 unfold mnV
 have HP6 : Hid (PT w (w5.alloc (.cells #[.int .i64 M.a, .bool M.b, .int .i64 M.n, .int .i64 M.d, .string ⟨M.s.toArray⟩] 34)) (dO p (.slice a n cap) al m (.slice ta tn tc) rf) (.cells #[.int .i64 x.i.b, .string x.K, .string x.L] 46) (dZ)) := HP5.out.on (alM _ _)
 have HU6 : Hid (OwnU (w5.alloc (.cells #[.int .i64 M.a, .bool M.b, .int .i64 M.n, .int .i64 M.d, .string ⟨M.s.toArray⟩] 34)) (w.heap.size + 3) gt tn ct t) := HU5.out.on (alM _ _)
 have HX6 : Hid ((w5.alloc (.cells #[.int .i64 M.a, .bool M.b, .int .i64 M.n, .int .i64 M.d, .string ⟨M.s.toArray⟩] 34)).heap[X]? = some (dO p (.slice (some ⟨g1, 0, none⟩) n c1) al m (.slice (some ⟨gt, 0, none⟩) tn ct) rf)) := row_on HX5.out (alM _ _)
 have HO6 : Hid (OwnA (w5.alloc (.cells #[.int .i64 M.a, .bool M.b, .int .i64 M.n, .int .i64 M.d, .string ⟨M.s.toArray⟩] 34)) (w.heap.size + 3) (some ⟨g2, 0, none⟩) q c2 l2) := HO5.out.on (alM _ _)
 have HM6 : Hid ((w5.alloc (.cells #[.int .i64 M.a, .bool M.b, .int .i64 M.n, .int .i64 M.d, .string ⟨M.s.toArray⟩] 34)).heap[w5.heap.size]? = some (.cells #[.int .i64 M.a, .bool M.b, .int .i64 M.n, .int .i64 M.d, .string ⟨M.s.toArray⟩] 34)) := heap_new w5 _
 have hX5 := row_lt HX5.out
 clear HP5 HU5 HX5 HO5
 go_upto_region 5 with fail
 generalize w5.alloc (.cells #[.int .i64 M.a, .bool M.b, .int .i64 M.n, .int .i64 M.d, .string ⟨M.s.toArray⟩] 34) = w6 at *
 generalize w5.heap.size = Y at *
 have m6 := box5_cells HM6.out
 go_wp2_with (refine listMenu rfl rfl _ _ _ rfl X (.int .i64 M.a) (.bool M.b) (.int .i64 M.n) (.int .i64 M.d) (.string ⟨M.s.toArray⟩) rfl rfl HX6.out (by kernel_rfl) (by kernel_rfl) ?_)
 intro w7 hput
 have HP7 : Hid (PT w w7 (dO p (.slice a n cap) al m (.slice ta tn tc) rf) (.cells #[.int .i64 x.i.b, .string x.K, .string x.L] 46) (dZ)) := HP6.out.put hput hX
 have HX7 := aqTdS2 hput.1
 have HU7 : Hid (OwnU w7 (w.heap.size + 3) gt tn ct t) := own_putM HU6.out hput (fun g e => by have e' := Option.some.inj e; dsimp only at e'; omega)
 have HO7 : Hid (OwnA w7 (w.heap.size + 3) (some ⟨g2, 0, none⟩) q c2 l2) := HO6.out.same HX6.out (fun cur e => by cases e) hput.2.1
 clear hput HP6 HU6 HX6 HO6 HM6 m6 hX5
 have i7 := box3_cells' HP7.out.i
 obtain ⟨os, hos⟩ : ∃ os, l2 ++ x.i.lo = os := ⟨_, rfl⟩
 have HOS := aqTdS2 hos
 obtain ⟨q7, hq7⟩ : ∃ q7, os.length = q7 := ⟨_, rfl⟩
 have HQ7 := aqTdS2 hq7
 have hlo := lo_len HXO.out.ic
 have hq21 : q7 ≤ 21 := by rw [← hq7, ← hos, List.length_append, HQ.out]; omega
 have HLK : Hid (LkD x.L x.i.lo x.i.lr) := HXO.out.2.1
 clear hos hq7
 go_upto_if 49 with fail
 obtain ⟨B49, hB49⟩ : ∃ B : Bool, (!x.L.toList.isEmpty) = B := ⟨_, rfl⟩
 rw [hB49]
 have HB49 := aqTdS2 hB49
 clear hB49
 go_cut [7] (fun v7 wc => ∃ (A : Option Addr) (c : Nat), v7 = .slice A q7 c ∧ Hid (OwnA wc (w.heap.size + 3) A q7 c os) ∧ Hid (PT w wc (dO p (.slice a n cap) al m (.slice ta tn tc) rf) (.cells #[.int .i64 x.i.b, .string x.K, .string x.L] 46) (dZ)) ∧ Hid (wc.heap[X]? = some (dO p (.slice (some ⟨g1, 0, none⟩) n c1) al M (.slice (some ⟨gt, 0, none⟩) tn ct) (rf + x.i.lr))) ∧ Hid (OwnU wc (w.heap.size + 3) gt tn ct t))
 case first =>
  rcases HLK.out with ⟨h1, h2, h3⟩ | ⟨h1, k0, n0, d0, v0, b0, h2, h3⟩
  ·
   have hE : x.L.toList = [] := (link_empty x.L).2 h1
   obtain rfl : false = B49 := by rw [← HB49.out, hE]; rfl
   have e1 : l2 = os := by rw [← HOS.out, h2, List.append_nil]
   have e2 : q = q7 := by rw [← HQ.out, e1, HQ7.out]
   have HX8 : Hid (w7.heap[X]? = some (dO p (.slice (some ⟨g1, 0, none⟩) n c1) al M (.slice (some ⟨gt, 0, none⟩) tn ct) (rf + x.i.lr))) := by show _ = _; rw [h3, Int.add_zero]; exact HX7.out
   have HO8 : Hid (OwnA w7 (w.heap.size + 3) (some ⟨g2, 0, none⟩) q7 c2 os) := by show OwnA _ _ _ _ _ _; rw [← e1, ← e2]; exact HO7.out
   clear h1 h2 h3 hE
   subst e2
   go_wp2
   go_meet
   exact ⟨some ⟨g2, 0, none⟩, c2, rfl, HO8, HP7, HX8, HU7⟩
  ·
   have hE : ¬ x.L.toList = [] := fun h => h1 ((link_empty x.L).1 h)
   obtain rfl : true = B49 := by rw [← HB49.out]; cases h : x.L.toList with | nil => exact absurd h hE | cons => rfl
   have HRO := aqTdS2 h2
   have HCS := aqTdS2 h3
   clear h1 h2 h3
   go_wp2_with fail
   refine (readoS x.L (by omega) _).mono ?_
   rintro e w8 ⟨k1, n1, d1, v1, b1, rfl, hro, hb⟩
   obtain ⟨rfl, rfl, rfl, rfl, rfl⟩ := HRO.out.uni hro
   have HP8 : Hid (PT w (w8.alloc (.cells #[.int .i64 k0, .int .i64 n0, .int .i64 d0, .int .i64 v0] 82)) (dO p (.slice a n cap) al m (.slice ta tn tc) rf) (.cells #[.int .i64 x.i.b, .string x.K, .string x.L] 46) (dZ)) := (HP7.out.on hb).on (alM _ _)
   have HU8 : Hid (OwnU (w8.alloc (.cells #[.int .i64 k0, .int .i64 n0, .int .i64 d0, .int .i64 v0] 82)) (w.heap.size + 3) gt tn ct t) := (HU7.out.on hb).on (alM _ _)
   have HX8 : Hid ((w8.alloc (.cells #[.int .i64 k0, .int .i64 n0, .int .i64 d0, .int .i64 v0] 82)).heap[X]? = some (dO p (.slice (some ⟨g1, 0, none⟩) n c1) al M (.slice (some ⟨gt, 0, none⟩) tn ct) rf)) := row_on (row_on HX7.out hb) (alM _ _)
   have HO8 : Hid (OwnA (w8.alloc (.cells #[.int .i64 k0, .int .i64 n0, .int .i64 d0, .int .i64 v0] 82)) (w.heap.size + 3) (some ⟨g2, 0, none⟩) q c2 l2) := (HO7.out.on hb).on (alM _ _)
   have HY8 : Hid ((w8.alloc (.cells #[.int .i64 k0, .int .i64 n0, .int .i64 d0, .int .i64 v0] 82)).heap[w8.heap.size]? = some (.cells #[.int .i64 k0, .int .i64 n0, .int .i64 d0, .int .i64 v0] 82)) := heap_new w8 _
   clear hro hb HP7 HU7 HX7 HO7 hE i7
   unfold ordV
   go_upto_region 8 with fail
   generalize w8.alloc (.cells #[.int .i64 k0, .int .i64 n0, .int .i64 d0, .int .i64 v0] 82) = w9 at *
   generalize w8.heap.size = V at *
   rcases HCS.out with ⟨rfl, h2, h3⟩ | ⟨rfl, h2, h3⟩
   ·
    have y9 := box4_cells HY8.out
    have HP9 : Hid (PT w (w9.alloc (.cells #[.int .i64 k0, .int .i64 n0, .int .i64 d0, .int .i64 v0] 82)) (dO p (.slice a n cap) al m (.slice ta tn tc) rf) (.cells #[.int .i64 x.i.b, .string x.K, .string x.L] 46) (dZ)) := HP8.out.on (alM _ _)
    have HU9 : Hid (OwnU (w9.alloc (.cells #[.int .i64 k0, .int .i64 n0, .int .i64 d0, .int .i64 v0] 82)) (w.heap.size + 3) gt tn ct t) := HU8.out.on (alM _ _)
    have HX9 : Hid ((w9.alloc (.cells #[.int .i64 k0, .int .i64 n0, .int .i64 d0, .int .i64 v0] 82)).heap[X]? = some (dO p (.slice (some ⟨g1, 0, none⟩) n c1) al M (.slice (some ⟨gt, 0, none⟩) tn ct) rf)) := row_on HX8.out (alM _ _)
    have HO9 : Hid (OwnA (w9.alloc (.cells #[.int .i64 k0, .int .i64 n0, .int .i64 d0, .int .i64 v0] 82)) (w.heap.size + 3) (some ⟨g2, 0, none⟩) q c2 l2) := HO8.out.on (alM _ _)
    have HR9 : Hid (RdQ (w9.alloc (.cells #[.int .i64 k0, .int .i64 n0, .int .i64 d0, .int .i64 v0] 82)) (some ⟨w9.heap.size, 0, none⟩) [(k0, n0, d0, v0)]) := (one_rowQ w9 k0 n0 d0 v0).rd
    have hp9 := HP9.out.lt
    have e1 : l2 ++ [(k0, n0, d0, v0)] = os := by rw [← HOS.out, h2]
    have e2 : q + 1 = q7 := by rw [← HQ7.out, ← e1, List.length_append, HQ.out]; rfl
    have HE1 : Hid (l2 ++ [(k0, n0, d0, v0)] = os) := e1
    have HE3 := aqTdS2 h3
    clear h2 h3 e1 HP8 HU8 HX8 HO8 HY8 HCS HRO
    subst e2
    go_upto_region 9 with fail
    go_wp2_with (refine listA rfl (.tmp 57) (.tmp 59) rfl (w.heap.size + 3) q c2 (some ⟨g2, 0, none⟩) l2 ⟨w9.heap.size, 0, none⟩ (k0, n0, d0, v0) rfl rfl HO9.out HR9.out (by omega) (by omega) ?_)
    intro g6 c6 w10 ho6 hg6
    have HP10 : Hid (PT w w10 (dO p (.slice a n cap) al m (.slice ta tn tc) rf) (.cells #[.int .i64 x.i.b, .string x.K, .string x.L] 46) (dZ)) := HP9.out.grown hg6 (fun m hm => by have := own_ge HO9.out m hm; omega)
    have HX10 : Hid (w10.heap[X]? = some (dO p (.slice (some ⟨g1, 0, none⟩) n c1) al M (.slice (some ⟨gt, 0, none⟩) tn ct) (rf + x.i.lr))) := by show _ = _; rw [HE3.out, Int.add_zero]; exact HO9.out.far hg6 HX9.out (fun cur e => by cases e)
    have HU10 : Hid (OwnU w10 (w.heap.size + 3) gt tn ct t) := own_grownM HU9.out hg6 (ou_ne HU9.out HO9.out)
    have HO10 : Hid (OwnA w10 (w.heap.size + 3) (some ⟨g6, 0, none⟩) (q + 1) c6 os) := by show OwnA _ _ _ _ _ _; rw [← HE1.out]; exact ho6
    clear ho6 hg6 HP9 HU9 HX9 HO9 HR9 y9
    go_wp2
    go_meet
    exact ⟨some ⟨g6, 0, none⟩, c6, rfl, HO10, HP10, HX10, HU10⟩
   ·
    have e1 : l2 = os := by rw [← HOS.out, h2, List.append_nil]
    have e2 : q = q7 := by rw [← HQ.out, e1, HQ7.out]
    have HO9 : Hid (OwnA w9 (w.heap.size + 3) (some ⟨g2, 0, none⟩) q7 c2 os) := by show OwnA _ _ _ _ _ _; rw [← e1, ← e2]; exact HO8.out
    have HE3 := aqTdS2 h3
    have k9 := box17_cells HX8.out
    have qr : IntKind.i64.wrap (rf + 1) = rf + 1 := wrap_in (by omega) (by omega)
    clear h2 h3 e1 HO8 HCS HRO HY8
    subst e2
    go_upto_region 10 with fail
    go_wp2_with (refine listStoreI rfl rfl _ _ _ rfl rfl X 16 (rf + 1) rfl rfl HX8.out (by simp) ?_)
    intro w10 hput
    have HP10 : Hid (PT w w10 (dO p (.slice a n cap) al m (.slice ta tn tc) rf) (.cells #[.int .i64 x.i.b, .string x.K, .string x.L] 46) (dZ)) := HP8.out.put hput hX
    have HX10 : Hid (w10.heap[X]? = some (dO p (.slice (some ⟨g1, 0, none⟩) n c1) al M (.slice (some ⟨gt, 0, none⟩) tn ct) (rf + x.i.lr))) := by show _ = _; rw [HE3.out]; exact hput.1
    have HU10 : Hid (OwnU w10 (w.heap.size + 3) gt tn ct t) := own_putM HU8.out hput (fun g e => by have e' := Option.some.inj e; dsimp only at e'; omega)
    have HO10 : Hid (OwnA w10 (w.heap.size + 3) (some ⟨g2, 0, none⟩) q c2 os) := HO9.out.same HX8.out (fun cur e => by cases e) hput.2.1
    clear hput HP8 HU8 HX8 HO9 k9 qr
    go_wp2
    go_meet
    exact ⟨some ⟨g2, 0, none⟩, c2, rfl, HO10, HP10, HX10, HU10⟩
 case rest =>
  clear HP7 HX7 HU7 HO7 i7 HLK HB49
  obtain ⟨A, c7, rfl, HO, HP, HX, HU⟩ := hcut
  obtain ⟨r0, hr0⟩ : ∃ r0, rf + x.i.lr = r0 := ⟨_, rfl⟩
  have hr0a : 0 ≤ r0 := by have := HXO.out.ic.2.2.2.1; omega
  have hr0b : r0 ≤ 999999901 := by have := HXO.out.ic.2.2.2.1; omega
  rw [hr0] at HX
  have HR0 := aqTdS2 hr0
  clear hr0
  have HST : Hid (PT w wc (dO p (.slice a n cap) al m (.slice ta tn tc) rf) (.cells #[.int .i64 x.i.b, .string x.K, .string x.L] 46) (dZ) ∧ wc.heap[X]? = some (dO p (.slice (some ⟨g1, 0, none⟩) n c1) al M (.slice (some ⟨gt, 0, none⟩) tn ct) r0) ∧ OwnU wc (w.heap.size + 3) gt tn ct t ∧ OwnA wc (w.heap.size + 3) A q7 c7 os) := ⟨HP.out, HX.out, HU.out, HO.out⟩
  clear HO HP HX HU
  go_wp2
  go_loopg [10, 11] q7 (fun gk s i wr => ∃ (j : Nat) (P : Pm) (R : Int) (sb : Bool), j + gk = q7 ∧ s = .bool sb ∧ i = .int .i64 j ∧ Hid (takeL ⟨p, r0, false⟩ (os.take j) = ⟨P, R, sb⟩) ∧ Hid (PT w wr (dO p (.slice a n cap) al m (.slice ta tn tc) rf) (.cells #[.int .i64 x.i.b, .string x.K, .string x.L] 46) (dZ) ∧ wr.heap[X]? = some (dO P (.slice (some ⟨g1, 0, none⟩) n c1) al M (.slice (some ⟨gt, 0, none⟩) tn ct) R) ∧ OwnU wr (w.heap.size + 3) gt tn ct t ∧ OwnA wr (w.heap.size + 3) A q7 c7 os))
  case atStart => exact ⟨0, p, r0, false, by omega, rfl, rfl, rfl, HST⟩
  case round =>
   clear HST
   obtain ⟨j, P, R, sb, hj, rfl, rfl, HTK, HS⟩ := hrel
   by_cases hlt : j < q7
   ·
    have hjl : j < os.length := by rw [HQ7.out]; exact hlt
    have htk := takeL_ok (os.take j) (x := ⟨p, r0, false⟩) HDO.out.p
    rw [HTK.out] at htk
    have hR0 : 0 ≤ R := by have := htk.2.2.1; dsimp only at this; omega
    have hR1 : R ≤ r0 + 21 := by have := htk.2.2.2; rw [List.length_take] at this; dsimp only at this; omega
    have hnx := takeL_take hjl ⟨p, r0, false⟩
    rw [HTK.out] at hnx
    obtain ⟨⟨ok, on, od, ov⟩, he⟩ : ∃ y, os[j] = y := ⟨_, rfl⟩
    rw [he] at hnx
    have HNX := aqTdS2 hnx
    obtain ⟨go, rfl, _⟩ := HS.out.2.2.2.at (by omega)
    have c4 := HS.out.2.2.2.cell4 j hjl
    rw [he] at c4
    dsimp only at c4
    have j0 : (0 : Int) ≤ j := by omega
    have j1 : (j : Int) < q7 := by omega
    have qj : IntKind.i64.wrap ((j : Int) + 1) = (j : Int) + 1 := wrap_in (by omega) (by omega)
    have qR : IntKind.i64.wrap (R + 1) = R + 1 := wrap_in (by omega) (by omega)
    clear htk hnx
    by_cases h5 : ok = 5
    ·
     have HTK2 : Hid (takeL ⟨p, r0, false⟩ (os.take (j + 1)) = ⟨P, R, true⟩) := by show _ = _; rw [HNX.out, stepK_seen h5]
     subst h5
     clear HNX HTK he hR0 hR1 qR
     go_wp2
     go_roundg (gk - 1)
     case measure => omega
     case rel => exact ⟨j + 1, P, R, true, by omega, rfl, by go_num, HTK2, HS⟩
    ·
     have q5 : (ok == 5) = false := by simpa using h5
     obtain ⟨⟨P2, B2⟩, hT⟩ : ∃ y, P.take ok on od ov = y := ⟨_, rfl⟩
     have HT2 := aqTdS2 hT
     have HTK2 : Hid (takeL ⟨p, r0, false⟩ (os.take (j + 1)) = ⟨P2, if B2 = true then R else R + 1, sb⟩) := by show _ = _; rw [HNX.out, stepK_take h5]; dsimp only; rw [hT]
     have HE := aqTdS2 he
     clear HNX HTK he hT h5
     have HC4 : Hid (∀ {W : World}, OwnA W (w.heap.size + 3) (some ⟨go, 0, none⟩) q7 c7 os → W.cell? ⟨go, j * 4, none⟩ = some (.int .i64 ok) ∧ W.cell? ⟨go, j * 4 + 1, none⟩ = some (.int .i64 on) ∧ W.cell? ⟨go, j * 4 + 2, none⟩ = some (.int .i64 od) ∧ W.cell? ⟨go, j * 4 + 3, none⟩ = some (.int .i64 ov)) := (fun h => by have h4 := h.cell4 j hjl; rw [HE.out] at h4; exact h4)
     have HTC : Hid (∀ w, Calls Tryz.prog 52 #[P.V, ordV ok on od ov] w fun e w' => e = .returned (.tuple #[P2.V, .bool B2]) ∧ Below w.heap.size w w') := fun w => by have h := takeS P ok on od ov w; rw [HT2.out] at h; exact h
     go_upto_region 17 with fail
     go_cut [12, 13] from 65 to 94 (fun v12 v13 wd => ∃ V : Nat, v12 = .pointer (some ⟨V, 0, none⟩) ∧ v13 = .bool B2 ∧ Hid (PT w wd (dO p (.slice a n cap) al m (.slice ta tn tc) rf) (.cells #[.int .i64 x.i.b, .string x.K, .string x.L] 46) (dZ) ∧ wd.heap[X]? = some (dO P (.slice (some ⟨g1, 0, none⟩) n c1) al M (.slice (some ⟨gt, 0, none⟩) tn ct) R) ∧ OwnU wd (w.heap.size + 3) gt tn ct t ∧ OwnA wd (w.heap.size + 3) (some ⟨go, 0, none⟩) q7 c7 os) ∧ Hid (wd.heap[V]? = some (.cells #[.int .i64 P2.s, .int .i64 P2.n, .int .i64 P2.d, .int .i64 P2.r, .int .i64 P2.l, .int .i64 P2.b, .int .i64 P2.g, .int .i64 P2.k] 29)))
     case first =>
      have HS0 : Hid (PT w wr.drew (dO p (.slice a n cap) al m (.slice ta tn tc) rf) (.cells #[.int .i64 x.i.b, .string x.K, .string x.L] 46) (dZ) ∧ wr.drew.heap[X]? = some (dO P (.slice (some ⟨g1, 0, none⟩) n c1) al M (.slice (some ⟨gt, 0, none⟩) tn ct) R) ∧ OwnU wr.drew (w.heap.size + 3) gt tn ct t ∧ OwnA wr.drew (w.heap.size + 3) (some ⟨go, 0, none⟩) q7 c7 os) := ⟨HS.out.1.drew, HS.out.2.1, HS.out.2.2.1, HS.out.2.2.2⟩
      refine wp_region_held_drew (S := fun w' => PT w w' (dO p (.slice a n cap) al m (.slice ta tn tc) rf) (.cells #[.int .i64 x.i.b, .string x.K, .string x.L] 46) (dZ) ∧ w'.heap[X]? = some (dO P (.slice (some ⟨g1, 0, none⟩) n c1) al M (.slice (some ⟨gt, 0, none⟩) tn ct) R) ∧ OwnU w' (w.heap.size + 3) gt tn ct t ∧ OwnA w' (w.heap.size + 3) (some ⟨go, 0, none⟩) q7 c7 os) (by kernel_rfl) HS0.out (fun hHeld0 => ?_)
      obtain ⟨v0, hv0⟩ : ∃ v0, wr.drew = v0 := ⟨_, rfl⟩
      rw [hv0] at HS0 hHeld0 ⊢
      clear hv0 HS c4
      refine tkQ 0 ?_ rfl ?_ ?_
      rotate_left
      · intro w_ hSw; clear hSw; (try clear hHeld0); (try clear hHeld1); (try clear hHeld2); (try clear hHeld3); (try clear hHeld9); go_simp <;> with_reducible rfl
      try simp only [Act.put, sQ]
      refine tkQ 1 ?_ rfl ?_ ?_
      rotate_left
      · intro w_ hSw; (try dsimp only at hSw); have f0 := box17_cells hSw.2.1; clear hSw; (try clear hHeld0); (try clear hHeld1); (try clear hHeld2); (try clear hHeld3); (try clear hHeld9); go_simp <;> with_reducible rfl
      try simp only [Act.put, sQ]
      refine tkQ 2 ?_ rfl ?_ ?_
      rotate_left
      · intro w_ hSw; clear hSw; (try clear hHeld0); (try clear hHeld1); (try clear hHeld2); (try clear hHeld3); (try clear hHeld9); go_simp <;> with_reducible rfl
      try simp only [Act.put, sQ]
      refine tkQ 3 ?_ rfl ?_ ?_
      rotate_left
      · intro w_ hSw; clear hSw; (try clear hHeld0); (try clear hHeld1); (try clear hHeld2); (try clear hHeld3); (try clear hHeld9); go_simp <;> with_reducible rfl
      try simp only [Act.put, sQ]
      refine tkQ 4 ?_ rfl ?_ ?_
      rotate_left
      · intro w_ hSw; clear hSw; (try clear hHeld0); (try clear hHeld1); (try clear hHeld2); (try clear hHeld3); (try clear hHeld9); go_simp <;> with_reducible rfl
      try simp only [Act.put, sQ]
      refine tkQ 5 ?_ rfl ?_ ?_
      rotate_left
      · intro w_ hSw; (try dsimp only at hSw); have f0 := HC4.out hSw.2.2.2; clear hSw; (try clear hHeld0); (try clear hHeld1); (try clear hHeld2); (try clear hHeld3); (try clear hHeld9); go_simp <;> with_reducible rfl
      try simp only [Act.put, sQ]
      refine wpAnyH_ready (rs := [6, 10]) (by kernel_rfl) (by simp) ?_
      refine AllReadyH.cons rfl (fun J hJ => ?_) (AllReadyH.cons rfl (fun J hJ => ?_) AllReadyH.nil)
      ·
       go_simp
       go_at_call 52
       refine (HTC.out _).mono ?_
       rintro e v1 ⟨rfl, hbc⟩
       have HS1 : Hid (PT w v1 (dO p (.slice a n cap) al m (.slice ta tn tc) rf) (.cells #[.int .i64 x.i.b, .string x.K, .string x.L] 46) (dZ) ∧ v1.heap[X]? = some (dO P (.slice (some ⟨g1, 0, none⟩) n c1) al M (.slice (some ⟨gt, 0, none⟩) tn ct) R) ∧ OwnU v1 (w.heap.size + 3) gt tn ct t ∧ OwnA v1 (w.heap.size + 3) (some ⟨go, 0, none⟩) q7 c7 os) := ⟨HS0.out.1.on hbc, row_on HS0.out.2.1 hbc, HS0.out.2.2.1.on hbc, HS0.out.2.2.2.on hbc⟩
       unfold Pm.V
       dsimp only
       clear hbc HS0
       go_wp2_with fail
       refine hJ.out _ _ HS1.out (fun hHeld1 => ?_)
       clear hJ J hHeld0
       try simp only [Act.put, sQ]
       refine tkQ 7 ?_ rfl ?_ ?_
       rotate_left
       · intro w_ hSw; clear hSw; (try clear hHeld0); (try clear hHeld1); (try clear hHeld2); (try clear hHeld3); (try clear hHeld9); go_simp <;> with_reducible rfl
       try simp only [Act.put, sQ]
       refine tkQ 8 ?_ rfl ?_ ?_
       rotate_left
       · intro w_ hSw; clear hSw; (try clear hHeld0); (try clear hHeld1); (try clear hHeld2); (try clear hHeld3); (try clear hHeld9); go_simp <;> with_reducible rfl
       try simp only [Act.put, sQ]
       refine tkQ 9 ?_ rfl ?_ ?_
       rotate_left
       · intro w_ hSw; clear hSw; (try clear hHeld0); (try clear hHeld1); (try clear hHeld2); (try clear hHeld3); (try clear hHeld9); go_simp <;> with_reducible rfl
       try simp only [Act.put, sQ]
       refine wpAnyH_ready (rs := [10]) (by kernel_rfl) (by simp) ?_
       refine AllReadyH.cons rfl (fun J hJ => ?_) AllReadyH.nil
       go_simp
       have HS2 : Hid (PT w (v1.alloc (.cells #[.int .i64 0, .int .i64 0, .int .i64 0, .int .i64 0, .int .i64 0, .int .i64 0, .int .i64 0, .int .i64 0] 29)) (dO p (.slice a n cap) al m (.slice ta tn tc) rf) (.cells #[.int .i64 x.i.b, .string x.K, .string x.L] 46) (dZ) ∧ (v1.alloc (.cells #[.int .i64 0, .int .i64 0, .int .i64 0, .int .i64 0, .int .i64 0, .int .i64 0, .int .i64 0, .int .i64 0] 29)).heap[X]? = some (dO P (.slice (some ⟨g1, 0, none⟩) n c1) al M (.slice (some ⟨gt, 0, none⟩) tn ct) R) ∧ OwnU (v1.alloc (.cells #[.int .i64 0, .int .i64 0, .int .i64 0, .int .i64 0, .int .i64 0, .int .i64 0, .int .i64 0, .int .i64 0] 29)) (w.heap.size + 3) gt tn ct t ∧ OwnA (v1.alloc (.cells #[.int .i64 0, .int .i64 0, .int .i64 0, .int .i64 0, .int .i64 0, .int .i64 0, .int .i64 0, .int .i64 0] 29)) (w.heap.size + 3) (some ⟨go, 0, none⟩) q7 c7 os) := ⟨HS1.out.1.on (alM _ _), row_on HS1.out.2.1 (alM _ _), HS1.out.2.2.1.on (alM _ _), HS1.out.2.2.2.on (alM _ _)⟩
       have HV2 : Hid ((v1.alloc (.cells #[.int .i64 0, .int .i64 0, .int .i64 0, .int .i64 0, .int .i64 0, .int .i64 0, .int .i64 0, .int .i64 0] 29)).heap[v1.heap.size]? = some (.cells #[.int .i64 0, .int .i64 0, .int .i64 0, .int .i64 0, .int .i64 0, .int .i64 0, .int .i64 0, .int .i64 0] 29)) := heap_new v1 _
       have hXV : X < v1.heap.size := row_lt HS1.out.2.1
       have hPV : w.heap.size + 2 < v1.heap.size := HS1.out.1.lt
       refine hJ.out _ _ HS2.out (fun hHeld2 => ?_)
       clear hJ J hHeld1 HS1
       try simp only [Act.put, sQ]
       generalize v1.alloc (.cells #[.int .i64 0, .int .i64 0, .int .i64 0, .int .i64 0, .int .i64 0, .int .i64 0, .int .i64 0, .int .i64 0] 29) = v2 at *
       generalize v1.heap.size = V at *
       refine wpAnyH_ready (rs := [11]) (by kernel_rfl) (by simp) ?_
       refine AllReadyH.cons rfl (fun J hJ => ?_) AllReadyH.nil
       refine storeP_any' rfl rfl _ _ _ rfl rfl V #[.int .i64 P2.s, .int .i64 P2.n, .int .i64 P2.d, .int .i64 P2.r, .int .i64 P2.l, .int .i64 P2.b, .int .i64 P2.g, .int .i64 P2.k] rfl rfl rfl (by kernel_rfl) HV2.out ?_
       intro v9 hput
       have HS9 : Hid (PT w v9 (dO p (.slice a n cap) al m (.slice ta tn tc) rf) (.cells #[.int .i64 x.i.b, .string x.K, .string x.L] 46) (dZ) ∧ v9.heap[X]? = some (dO P (.slice (some ⟨g1, 0, none⟩) n c1) al M (.slice (some ⟨gt, 0, none⟩) tn ct) R) ∧ OwnU v9 (w.heap.size + 3) gt tn ct t ∧ OwnA v9 (w.heap.size + 3) (some ⟨go, 0, none⟩) q7 c7 os) := ⟨HS2.out.1.put hput hPV, hput.far HS2.out.2.1 (by omega), own_putM HS2.out.2.2.1 hput (fun g e e2 => by subst e2; exact ownu_ne HS2.out.2.2.1 (Option.some.inj e) HV2.out), HS2.out.2.2.2.same HV2.out (fun cur e => by cases e) hput.2.1⟩
       have HV9 := aqTdS2 hput.1
       clear hput HS2 HV2
       refine hJ.out _ _ HS9.out (fun hHeld9 => ?_)
       clear hJ J hHeld2
       try simp only [Act.put, sQ]
       refine tkQ 12 ?_ rfl ?_ ?_
       rotate_left
       · intro w_ hSw; clear hSw; (try clear hHeld0); (try clear hHeld1); (try clear hHeld2); (try clear hHeld3); (try clear hHeld9); go_simp <;> with_reducible rfl
       try simp only [Act.put, sQ]
       clear hHeld9
       refine wpAnyH_done (by kernel_rfl) ?_ _
       (try go_wp2_with fail)
       go_meet
       exact ⟨V, rfl, rfl, HS9, HV9⟩
      ·
       go_simp
       have HS1 : Hid (PT w (v0.alloc (.cells #[.int .i64 0, .int .i64 0, .int .i64 0, .int .i64 0, .int .i64 0, .int .i64 0, .int .i64 0, .int .i64 0] 29)) (dO p (.slice a n cap) al m (.slice ta tn tc) rf) (.cells #[.int .i64 x.i.b, .string x.K, .string x.L] 46) (dZ) ∧ (v0.alloc (.cells #[.int .i64 0, .int .i64 0, .int .i64 0, .int .i64 0, .int .i64 0, .int .i64 0, .int .i64 0, .int .i64 0] 29)).heap[X]? = some (dO P (.slice (some ⟨g1, 0, none⟩) n c1) al M (.slice (some ⟨gt, 0, none⟩) tn ct) R) ∧ OwnU (v0.alloc (.cells #[.int .i64 0, .int .i64 0, .int .i64 0, .int .i64 0, .int .i64 0, .int .i64 0, .int .i64 0, .int .i64 0] 29)) (w.heap.size + 3) gt tn ct t ∧ OwnA (v0.alloc (.cells #[.int .i64 0, .int .i64 0, .int .i64 0, .int .i64 0, .int .i64 0, .int .i64 0, .int .i64 0, .int .i64 0] 29)) (w.heap.size + 3) (some ⟨go, 0, none⟩) q7 c7 os) := ⟨HS0.out.1.on (alM _ _), row_on HS0.out.2.1 (alM _ _), HS0.out.2.2.1.on (alM _ _), HS0.out.2.2.2.on (alM _ _)⟩
       have HV1 : Hid ((v0.alloc (.cells #[.int .i64 0, .int .i64 0, .int .i64 0, .int .i64 0, .int .i64 0, .int .i64 0, .int .i64 0, .int .i64 0] 29)).heap[v0.heap.size]? = some (.cells #[.int .i64 0, .int .i64 0, .int .i64 0, .int .i64 0, .int .i64 0, .int .i64 0, .int .i64 0, .int .i64 0] 29)) := heap_new v0 _
       have hXV : X < v0.heap.size := row_lt HS0.out.2.1
       have hPV : w.heap.size + 2 < v0.heap.size := HS0.out.1.lt
       refine hJ.out _ _ HS1.out (fun hHeld1 => ?_)
       clear hJ J hHeld0 HS0
       try simp only [Act.put, sQ]
       generalize v0.alloc (.cells #[.int .i64 0, .int .i64 0, .int .i64 0, .int .i64 0, .int .i64 0, .int .i64 0, .int .i64 0, .int .i64 0] 29) = v1 at *
       generalize v0.heap.size = V at *
       refine wpAnyH_ready (rs := [6]) (by kernel_rfl) (by simp) ?_
       refine AllReadyH.cons rfl (fun J hJ => ?_) AllReadyH.nil
       go_simp
       go_at_call 52
       refine (HTC.out _).mono ?_
       rintro e v2 ⟨rfl, hbc⟩
       have HS2 : Hid (PT w v2 (dO p (.slice a n cap) al m (.slice ta tn tc) rf) (.cells #[.int .i64 x.i.b, .string x.K, .string x.L] 46) (dZ) ∧ v2.heap[X]? = some (dO P (.slice (some ⟨g1, 0, none⟩) n c1) al M (.slice (some ⟨gt, 0, none⟩) tn ct) R) ∧ OwnU v2 (w.heap.size + 3) gt tn ct t ∧ OwnA v2 (w.heap.size + 3) (some ⟨go, 0, none⟩) q7 c7 os) := ⟨HS1.out.1.on hbc, row_on HS1.out.2.1 hbc, HS1.out.2.2.1.on hbc, HS1.out.2.2.2.on hbc⟩
       have HV2 := rq HV1 hbc
       unfold Pm.V
       dsimp only
       clear hbc HS1 HV1
       go_wp2_with fail
       refine hJ.out _ _ HS2.out (fun hHeld2 => ?_)
       clear hJ J hHeld1
       try simp only [Act.put, sQ]
       refine tkQ 7 ?_ rfl ?_ ?_
       rotate_left
       · intro w_ hSw; clear hSw; (try clear hHeld0); (try clear hHeld1); (try clear hHeld2); (try clear hHeld3); (try clear hHeld9); go_simp <;> with_reducible rfl
       try simp only [Act.put, sQ]
       refine tkQ 8 ?_ rfl ?_ ?_
       rotate_left
       · intro w_ hSw; clear hSw; (try clear hHeld0); (try clear hHeld1); (try clear hHeld2); (try clear hHeld3); (try clear hHeld9); go_simp <;> with_reducible rfl
       try simp only [Act.put, sQ]
       refine tkQ 9 ?_ rfl ?_ ?_
       rotate_left
       · intro w_ hSw; clear hSw; (try clear hHeld0); (try clear hHeld1); (try clear hHeld2); (try clear hHeld3); (try clear hHeld9); go_simp <;> with_reducible rfl
       try simp only [Act.put, sQ]
       refine wpAnyH_ready (rs := [11]) (by kernel_rfl) (by simp) ?_
       refine AllReadyH.cons rfl (fun J hJ => ?_) AllReadyH.nil
       refine storeP_any' rfl rfl _ _ _ rfl rfl V #[.int .i64 P2.s, .int .i64 P2.n, .int .i64 P2.d, .int .i64 P2.r, .int .i64 P2.l, .int .i64 P2.b, .int .i64 P2.g, .int .i64 P2.k] rfl rfl rfl (by kernel_rfl) HV2.out ?_
       intro v9 hput
       have HS9 : Hid (PT w v9 (dO p (.slice a n cap) al m (.slice ta tn tc) rf) (.cells #[.int .i64 x.i.b, .string x.K, .string x.L] 46) (dZ) ∧ v9.heap[X]? = some (dO P (.slice (some ⟨g1, 0, none⟩) n c1) al M (.slice (some ⟨gt, 0, none⟩) tn ct) R) ∧ OwnU v9 (w.heap.size + 3) gt tn ct t ∧ OwnA v9 (w.heap.size + 3) (some ⟨go, 0, none⟩) q7 c7 os) := ⟨HS2.out.1.put hput hPV, hput.far HS2.out.2.1 (by omega), own_putM HS2.out.2.2.1 hput (fun g e e2 => by subst e2; exact ownu_ne HS2.out.2.2.1 (Option.some.inj e) HV2.out), HS2.out.2.2.2.same HV2.out (fun cur e => by cases e) hput.2.1⟩
       have HV9 := aqTdS2 hput.1
       clear hput HS2 HV2
       refine hJ.out _ _ HS9.out (fun hHeld9 => ?_)
       clear hJ J hHeld2
       try simp only [Act.put, sQ]
       refine tkQ 12 ?_ rfl ?_ ?_
       rotate_left
       · intro w_ hSw; clear hSw; (try clear hHeld0); (try clear hHeld1); (try clear hHeld2); (try clear hHeld3); (try clear hHeld9); go_simp <;> with_reducible rfl
       try simp only [Act.put, sQ]
       clear hHeld9
       refine wpAnyH_done (by kernel_rfl) ?_ _
       (try go_wp2_with fail)
       go_meet
       exact ⟨V, rfl, rfl, HS9, HV9⟩
     case rest =>
      obtain ⟨V, rfl, rfl, HS2, HV⟩ := hcut
      have y := box8_cells HV.out
      have hXl := row_lt HS2.out.2.1
      clear HS c4
      go_upto_region 18 with fail
      go_wp2_with (refine listPump rfl rfl _ _ _ rfl X (.int .i64 P2.s) (.int .i64 P2.n) (.int .i64 P2.d) (.int .i64 P2.r) (.int .i64 P2.l) (.int .i64 P2.b) (.int .i64 P2.g) (.int .i64 P2.k) rfl rfl HS2.out.2.1 (by kernel_rfl) (by kernel_rfl) ?_)
      intro w3 hput
      have HS3 : Hid (PT w w3 (dO p (.slice a n cap) al m (.slice ta tn tc) rf) (.cells #[.int .i64 x.i.b, .string x.K, .string x.L] 46) (dZ) ∧ w3.heap[X]? = some (dO P2 (.slice (some ⟨g1, 0, none⟩) n c1) al M (.slice (some ⟨gt, 0, none⟩) tn ct) R) ∧ OwnU w3 (w.heap.size + 3) gt tn ct t ∧ OwnA w3 (w.heap.size + 3) (some ⟨go, 0, none⟩) q7 c7 os) := ⟨HS2.out.1.put hput hX, hput.1, own_putM HS2.out.2.2.1 hput (fun g e => by have e' := Option.some.inj e; dsimp only at e'; omega), HS2.out.2.2.2.same HS2.out.2.1 (fun cur e => by cases e) hput.2.1⟩
      clear hput HS2 HV y
      cases B2
      ·
       have HTK3 : Hid (takeL ⟨p, r0, false⟩ (os.take (j + 1)) = ⟨P2, R + 1, sb⟩) := HTK2.out
       have k9 := box17_cells HS3.out.2.1
       go_upto_region 20 with fail
       go_wp2_with (refine listStoreI rfl rfl _ _ _ rfl rfl X 16 (R + 1) rfl rfl HS3.out.2.1 (by simp) ?_)
       intro w4 hput
       have HS4 : Hid (PT w w4 (dO p (.slice a n cap) al m (.slice ta tn tc) rf) (.cells #[.int .i64 x.i.b, .string x.K, .string x.L] 46) (dZ) ∧ w4.heap[X]? = some (dO P2 (.slice (some ⟨g1, 0, none⟩) n c1) al M (.slice (some ⟨gt, 0, none⟩) tn ct) (R + 1)) ∧ OwnU w4 (w.heap.size + 3) gt tn ct t ∧ OwnA w4 (w.heap.size + 3) (some ⟨go, 0, none⟩) q7 c7 os) := ⟨HS3.out.1.put hput hX, hput.1, own_putM HS3.out.2.2.1 hput (fun g e => by have e' := Option.some.inj e; dsimp only at e'; omega), HS3.out.2.2.2.same HS3.out.2.1 (fun cur e => by cases e) hput.2.1⟩
       clear hput HS3 k9 HTK2
       go_wp2
       go_roundg (gk - 1)
       case measure => omega
       case rel => exact ⟨j + 1, P2, R + 1, sb, by omega, rfl, by go_num, HTK3, HS4⟩
      ·
       have HTK3 : Hid (takeL ⟨p, r0, false⟩ (os.take (j + 1)) = ⟨P2, R, sb⟩) := HTK2.out
       clear HTK2
       go_wp2
       go_roundg (gk - 1)
       case measure => omega
       case rel => exact ⟨j + 1, P2, R, sb, by omega, rfl, by go_num, HTK3, HS3⟩
   ·
    have HTF : Hid (takeL ⟨p, rf + x.i.lr, false⟩ (l2 ++ x.i.lo) = ⟨P, R, sb⟩) := by
     show _ = _
     rw [HR0.out, HOS.out]
     have h := HTK.out
     rw [List.take_of_length_le (by rw [HQ7.out]; omega)] at h
     exact h
    have HS0 : Hid (PT w wr (dO p (.slice a n cap) al m (.slice ta tn tc) rf) (.cells #[.int .i64 x.i.b, .string x.K, .string x.L] 46) (dZ) ∧ wr.heap[X]? = some (dO P (.slice (some ⟨g1, 0, none⟩) n c1) al M (.slice (some ⟨gt, 0, none⟩) tn ct) R) ∧ OwnU wr (w.heap.size + 3) gt tn ct t) := ⟨HS.out.1, HS.out.2.1, HS.out.2.2.1⟩
    obtain ⟨al2, hal2⟩ : ∃ z, G.feelA true al x.i.b sb = z := ⟨_, rfl⟩
    have HAL := aqTdS2 hal2
    have HG2 : Hid (G.GdR l al2) := by show G.GdR l al2; rw [← hal2]; exact G.feel_ok HGd.out true x.i.b sb
    obtain ⟨nn, hnn⟩ : ∃ z, (if true = true ∧ al2 = 0 then G.letG l P.wants else 0) = z := ⟨_, rfl⟩
    have HNN := aqTdS2 hnn
    obtain ⟨P3, hP3⟩ : ∃ z, (if al2 = 0 then P.give nn else P) = z := ⟨_, rfl⟩
    have HP3 := aqTdS2 hP3
    obtain ⟨Yl, hYl⟩ : ∃ z, G.passL true l nn = z := ⟨_, rfl⟩
    have HYL := aqTdS2 hYl
    obtain ⟨m2, hm2⟩ : ∃ z, Yl.length = z := ⟨_, rfl⟩
    have HM2 := aqTdS2 hm2
    have HFIN : Hid (tickD ⟨p, l, al, m, t, rf⟩ x.i = ⟨P3, Yl, al2, M, t ++ [(nn, al2, P3.s)], R⟩) := tickD_eq (D := ⟨p, l, al, m, t, rf⟩) HRA.out HTF.out hal2 hnn hP3 hYl
    clear hal2 hnn hP3 hYl hm2 HS HTK
    have k1 := box17_cells HS0.out.1.d
    have i1 := box3_cells' HS0.out.1.i
    have HRw : Hid (G.Rd wr a l) := HRL.out.keep HS0.out.1.b (Nat.le_refl _)
    have hXr := row_lt HS0.out.2.1
    have hPr := HS0.out.1.lt
    go_wp2_with fail
    refine (G.feelS a al l n cap x.i.b sb true al2 HAL.out HL.out (by omega) HA.out ⟨fun _ => HGd.out, fun _ => rfl⟩ _ HRw.out).mono ?_
    rintro e w1 ⟨g5, c5, rfl, ho, hb⟩
    have HS1 : Hid (PT w w1 (dO p (.slice a n cap) al m (.slice ta tn tc) rf) (.cells #[.int .i64 x.i.b, .string x.K, .string x.L] 46) (dZ) ∧ w1.heap[X]? = some (dO P (.slice (some ⟨g1, 0, none⟩) n c1) al M (.slice (some ⟨gt, 0, none⟩) tn ct) R) ∧ OwnU w1 (w.heap.size + 3) gt tn ct t) := ⟨HS0.out.1.on hb, row_on HS0.out.2.1 hb, HS0.out.2.2.on hb⟩
    have hg5 : wr.heap.size + 2 ≤ g5 := G.own_ge ho g5 rfl
    have HG1 : Hid (G.OwnN w1 (w.heap.size + 3) g5 n c5 l) := G.own_mono ho (by omega)
    clear ho hb HS0 k1 i1 HRw
    go_wp2_with (refine listGuard rfl rfl _ _ _ rfl X (.slice (some ⟨g5, 0, none⟩) n c5) (.int .i64 al2) rfl rfl HS1.out.2.1 (by kernel_rfl) (by kernel_rfl) ?_)
    intro w2 hput
    have HS2 : Hid ((PT w w2 (dO p (.slice a n cap) al m (.slice ta tn tc) rf) (.cells #[.int .i64 x.i.b, .string x.K, .string x.L] 46) (dZ) ∧ w2.heap[X]? = some (dO P (.slice (some ⟨g5, 0, none⟩) n c5) al2 M (.slice (some ⟨gt, 0, none⟩) tn ct) R) ∧ OwnU w2 (w.heap.size + 3) gt tn ct t) ∧ G.OwnN w2 (w.heap.size + 3) g5 n c5 l) := ⟨⟨HS1.out.1.put hput hX, hput.1, own_putM HS1.out.2.2 hput (fun g e => by have e' := Option.some.inj e; dsimp only at e'; omega)⟩, own_putM HG1.out hput (fun g e => by have e' := Option.some.inj e; dsimp only at e'; omega)⟩
    clear hput HS1 HG1
    go_upto_region 22 with fail
    go_cut [14] (fun v14 wd => v14 = .int .i64 nn ∧ Hid ((PT w wd (dO p (.slice a n cap) al m (.slice ta tn tc) rf) (.cells #[.int .i64 x.i.b, .string x.K, .string x.L] 46) (dZ) ∧ wd.heap[X]? = some (dO P (.slice (some ⟨g5, 0, none⟩) n c5) al2 M (.slice (some ⟨gt, 0, none⟩) tn ct) R) ∧ OwnU wd (w.heap.size + 3) gt tn ct t) ∧ G.OwnN wd (w.heap.size + 3) g5 n c5 l))
    case first =>
     have HS3 : Hid ((PT w w2.drew (dO p (.slice a n cap) al m (.slice ta tn tc) rf) (.cells #[.int .i64 x.i.b, .string x.K, .string x.L] 46) (dZ) ∧ w2.drew.heap[X]? = some (dO P (.slice (some ⟨g5, 0, none⟩) n c5) al2 M (.slice (some ⟨gt, 0, none⟩) tn ct) R) ∧ OwnU w2.drew (w.heap.size + 3) gt tn ct t) ∧ G.OwnN w2.drew (w.heap.size + 3) g5 n c5 l) := ⟨⟨HS2.out.1.1.drew, HS2.out.1.2.1, HS2.out.1.2.2⟩, HS2.out.2⟩
     refine wp_region_held_drew (S := fun w' => (PT w w' (dO p (.slice a n cap) al m (.slice ta tn tc) rf) (.cells #[.int .i64 x.i.b, .string x.K, .string x.L] 46) (dZ) ∧ w'.heap[X]? = some (dO P (.slice (some ⟨g5, 0, none⟩) n c5) al2 M (.slice (some ⟨gt, 0, none⟩) tn ct) R) ∧ OwnU w' (w.heap.size + 3) gt tn ct t) ∧ G.OwnN w' (w.heap.size + 3) g5 n c5 l) (by kernel_rfl) HS3.out (fun hHeld0 => ?_)
     obtain ⟨v0, hv0⟩ : ∃ v0, w2.drew = v0 := ⟨_, rfl⟩
     rw [hv0] at HS3 hHeld0 ⊢
     clear hv0 HS2
     refine tkQ 0 ?_ rfl ?_ ?_
     rotate_left
     · intro w_ hSw; clear hSw; (try clear hHeld0); (try clear hHeld1); (try clear hHeld2); (try clear hHeld3); (try clear hHeld9); go_simp <;> with_reducible rfl
     try simp only [Act.put, sQ]
     refine tkQ 1 ?_ rfl ?_ ?_
     rotate_left
     · intro w_ hSw; (try dsimp only at hSw); have f0 := box17_cells hSw.1.2.1; clear hSw; (try clear hHeld0); (try clear hHeld1); (try clear hHeld2); (try clear hHeld3); (try clear hHeld9); go_simp <;> with_reducible rfl
     try simp only [Act.put, sQ]
     refine tkQ 2 ?_ rfl ?_ ?_
     rotate_left
     · intro w_ hSw; clear hSw; (try clear hHeld0); (try clear hHeld1); (try clear hHeld2); (try clear hHeld3); (try clear hHeld9); go_simp <;> with_reducible rfl
     try simp only [Act.put, sQ]
     refine tkQ 3 ?_ rfl ?_ ?_
     rotate_left
     · intro w_ hSw; (try dsimp only at hSw); have f0 := box17_cells hSw.1.2.1; clear hSw; (try clear hHeld0); (try clear hHeld1); (try clear hHeld2); (try clear hHeld3); (try clear hHeld9); go_simp <;> with_reducible rfl
     try simp only [Act.put, sQ]
     refine wpAnyH_ready (rs := [4]) (by kernel_rfl) (by simp) ?_
     refine AllReadyH.cons rfl (fun J hJ => ?_) AllReadyH.nil
     go_simp
     go_at_call 55
     refine (wantsS P _).mono ?_
     rintro e v1 ⟨rfl, hbc⟩
     have HS4 : Hid ((PT w v1 (dO p (.slice a n cap) al m (.slice ta tn tc) rf) (.cells #[.int .i64 x.i.b, .string x.K, .string x.L] 46) (dZ) ∧ v1.heap[X]? = some (dO P (.slice (some ⟨g5, 0, none⟩) n c5) al2 M (.slice (some ⟨gt, 0, none⟩) tn ct) R) ∧ OwnU v1 (w.heap.size + 3) gt tn ct t) ∧ G.OwnN v1 (w.heap.size + 3) g5 n c5 l) := ⟨⟨HS3.out.1.1.on hbc, row_on HS3.out.1.2.1 hbc, HS3.out.1.2.2.on hbc⟩, own_keep HS3.out.2 hbc (own_lt HS3.out.2)⟩
     clear hbc HS3
     go_wp2_with fail
     refine hJ.out _ _ HS4.out (fun hHeld1 => ?_)
     clear hJ J hHeld0
     try simp only [Act.put, sQ]
     refine wpAnyH_ready (rs := [5]) (by kernel_rfl) (by simp) ?_
     refine AllReadyH.cons rfl (fun J hJ => ?_) AllReadyH.nil
     have HR4 : Hid (G.Rd v1 (some ⟨g5, 0, none⟩) l) := gown_rd HS4.out.2
     go_simp
     go_at_call 54
     refine (G.allowS (some ⟨g5, 0, none⟩) al2 l n c5 P.wants true nn HL.out (by omega) ⟨fun _ => HG2.out, fun _ => rfl⟩ (by simpa using HNN.out) _ HR4.out).mono ?_
     rintro e v2 ⟨rfl, hbc⟩
     have HS5 : Hid ((PT w v2 (dO p (.slice a n cap) al m (.slice ta tn tc) rf) (.cells #[.int .i64 x.i.b, .string x.K, .string x.L] 46) (dZ) ∧ v2.heap[X]? = some (dO P (.slice (some ⟨g5, 0, none⟩) n c5) al2 M (.slice (some ⟨gt, 0, none⟩) tn ct) R) ∧ OwnU v2 (w.heap.size + 3) gt tn ct t) ∧ G.OwnN v2 (w.heap.size + 3) g5 n c5 l) := ⟨⟨HS4.out.1.1.on hbc, row_on HS4.out.1.2.1 hbc, HS4.out.1.2.2.on hbc⟩, own_keep HS4.out.2 hbc (own_lt HS4.out.2)⟩
     clear hbc HS4 HR4
     go_wp2_with fail
     refine hJ.out _ _ HS5.out (fun hHeld2 => ?_)
     clear hJ J hHeld1
     try simp only [Act.put, sQ]
     refine tkQ 6 ?_ rfl ?_ ?_
     rotate_left
     · intro w_ hSw; clear hSw; (try clear hHeld0); (try clear hHeld1); (try clear hHeld2); (try clear hHeld3); (try clear hHeld9); go_simp <;> with_reducible rfl
     try simp only [Act.put, sQ]
     clear hHeld2
     refine wpAnyH_done (by kernel_rfl) ?_ _
     (try go_wp2_with fail)
     go_meet
     exact ⟨rfl, HS5⟩
    case rest =>
     obtain ⟨rfl, HS5⟩ := hcut
     clear HS2
     have k5 := box17_cells HS5.out.1.2.1
     by_cases h0 : al2 = 0
     ·
      have hP3g : P.give nn = P3 := by have h := HP3.out; rw [if_pos h0] at h; exact h
      subst h0
      have HGI : Hid (∀ w, Calls Tryz.prog 56 #[P.V, .int .i64 nn] w fun e w' => e = .returned P3.V ∧ Below w.heap.size w w') := fun w => by have h := giveS P nn w; rw [hP3g] at h; exact h
      go_wp2_with fail
      refine (HGI.out _).mono ?_
      rintro e w6 ⟨rfl, hb⟩
      have HS6 : Hid ((PT w w6 (dO p (.slice a n cap) al m (.slice ta tn tc) rf) (.cells #[.int .i64 x.i.b, .string x.K, .string x.L] 46) (dZ) ∧ w6.heap[X]? = some (dO P (.slice (some ⟨g5, 0, none⟩) n c5) 0 M (.slice (some ⟨gt, 0, none⟩) tn ct) R) ∧ OwnU w6 (w.heap.size + 3) gt tn ct t) ∧ G.OwnN w6 (w.heap.size + 3) g5 n c5 l) := ⟨⟨HS5.out.1.1.on hb, row_on HS5.out.1.2.1 hb, HS5.out.1.2.2.on hb⟩, own_keep HS5.out.2 hb (own_lt HS5.out.2)⟩
      unfold Pm.V
      dsimp only
      clear hb HS5 k5
      go_wp2_with (refine listPump rfl rfl _ _ _ rfl X (.int .i64 P3.s) (.int .i64 P3.n) (.int .i64 P3.d) (.int .i64 P3.r) (.int .i64 P3.l) (.int .i64 P3.b) (.int .i64 P3.g) (.int .i64 P3.k) rfl rfl HS6.out.1.2.1 (by kernel_rfl) (by kernel_rfl) ?_)
      intro w7 hput
      have HS7 : Hid ((PT w w7 (dO p (.slice a n cap) al m (.slice ta tn tc) rf) (.cells #[.int .i64 x.i.b, .string x.K, .string x.L] 46) (dZ) ∧ w7.heap[X]? = some (dO P3 (.slice (some ⟨g5, 0, none⟩) n c5) 0 M (.slice (some ⟨gt, 0, none⟩) tn ct) R) ∧ OwnU w7 (w.heap.size + 3) gt tn ct t) ∧ G.OwnN w7 (w.heap.size + 3) g5 n c5 l) := ⟨⟨HS6.out.1.1.put hput hX, hput.1, own_putM HS6.out.1.2.2 hput (fun g e => by have e' := Option.some.inj e; dsimp only at e'; omega)⟩, own_putM HS6.out.2 hput (fun g e => by have e' := Option.some.inj e; dsimp only at e'; omega)⟩
      clear hput HS6
      have HS8 := aqTdS2 HS7.out
      clear HS7
      have k8 := box17_cells HS8.out.1.2.1
      have HR8 : Hid (G.Rd w7 (some ⟨g5, 0, none⟩) l) := gown_rd HS8.out.2
      have hX8 := row_lt HS8.out.1.2.1
      have hP8 := HS8.out.1.1.lt
      go_wp2_with fail
      refine (G.passS (some ⟨g5, 0, none⟩) 0 l n c5 nn true Yl m2 HYL.out HM2.out HL.out (by omega) (fun e => by cases e) ⟨fun _ => HG2.out, fun _ => rfl⟩ _ HR8.out).mono ?_
      rintro e w9 ⟨g7, c7', rfl, ho, hb⟩
      have hg7 : w7.heap.size + 2 ≤ g7 := G.own_ge ho g7 rfl
      have HS9 : Hid ((PT w w9 (dO p (.slice a n cap) al m (.slice ta tn tc) rf) (.cells #[.int .i64 x.i.b, .string x.K, .string x.L] 46) (dZ) ∧ w9.heap[X]? = some (dO P3 (.slice (some ⟨g5, 0, none⟩) n c5) 0 M (.slice (some ⟨gt, 0, none⟩) tn ct) R) ∧ OwnU w9 (w.heap.size + 3) gt tn ct t) ∧ G.OwnN w9 (w.heap.size + 3) g7 m2 c7' Yl) := ⟨⟨HS8.out.1.1.on hb, row_on HS8.out.1.2.1 hb, HS8.out.1.2.2.on hb⟩, G.own_mono ho (by omega)⟩
      clear ho hb HS8 k8 HR8
      go_wp2_with (refine listGuard rfl rfl _ _ _ rfl X (.slice (some ⟨g7, 0, none⟩) m2 c7') (.int .i64 0) rfl rfl HS9.out.1.2.1 (by kernel_rfl) (by kernel_rfl) ?_)
      intro wa hput
      have HSA : Hid ((PT w wa (dO p (.slice a n cap) al m (.slice ta tn tc) rf) (.cells #[.int .i64 x.i.b, .string x.K, .string x.L] 46) (dZ) ∧ wa.heap[X]? = some (dO P3 (.slice (some ⟨g7, 0, none⟩) m2 c7') 0 M (.slice (some ⟨gt, 0, none⟩) tn ct) R) ∧ OwnU wa (w.heap.size + 3) gt tn ct t) ∧ G.OwnN wa (w.heap.size + 3) g7 m2 c7' Yl) := ⟨⟨HS9.out.1.1.put hput hX, hput.1, own_putM HS9.out.1.2.2 hput (fun g e => by have e' := Option.some.inj e; dsimp only at e'; omega)⟩, own_putM HS9.out.2 hput (fun g e => by have e' := Option.some.inj e; dsimp only at e'; omega)⟩
      clear hput HS9
      have ka := box17_cells HSA.out.1.2.1
      have HSB : Hid ((PT w (wa.alloc (.cells #[.int .i64 nn, .int .i64 0, .int .i64 P3.s] 64)) (dO p (.slice a n cap) al m (.slice ta tn tc) rf) (.cells #[.int .i64 x.i.b, .string x.K, .string x.L] 46) (dZ) ∧ (wa.alloc (.cells #[.int .i64 nn, .int .i64 0, .int .i64 P3.s] 64)).heap[X]? = some (dO P3 (.slice (some ⟨g7, 0, none⟩) m2 c7') 0 M (.slice (some ⟨gt, 0, none⟩) tn ct) R) ∧ OwnU (wa.alloc (.cells #[.int .i64 nn, .int .i64 0, .int .i64 P3.s] 64)) (w.heap.size + 3) gt tn ct t) ∧ G.OwnN (wa.alloc (.cells #[.int .i64 nn, .int .i64 0, .int .i64 P3.s] 64)) (w.heap.size + 3) g7 m2 c7' Yl) := ⟨⟨HSA.out.1.1.on (alM _ _), row_on HSA.out.1.2.1 (alM _ _), HSA.out.1.2.2.on (alM _ _)⟩, own_keep HSA.out.2 (alM _ _) (own_lt HSA.out.2)⟩
      have HRB : Hid (RdY (wa.alloc (.cells #[.int .i64 nn, .int .i64 0, .int .i64 P3.s] 64)) (some ⟨wa.heap.size, 0, none⟩) [(nn, 0, P3.s)]) := (one_rowY wa nn 0 P3.s).rd
      have hXa := row_lt HSA.out.1.2.1
      have hgu := HSB.out.1.2.2.lt
      have hPb := HSB.out.1.1.lt
      go_upto_region 26 with fail
      go_wp2_with (refine listY rfl (.tmp 123) (.tmp 132) rfl (w.heap.size + 3) gt tn ct t (some ⟨wa.heap.size, 0, none⟩) 1 1 [(nn, 0, P3.s)] rfl rfl HSB.out.1.2.2 rfl (fun e => by cases e) HRB.out (by omega) (by omega) ?_)
      intro g8 c8 wb hob hgb
      have HSC : Hid ((PT w wb (dO p (.slice a n cap) al m (.slice ta tn tc) rf) (.cells #[.int .i64 x.i.b, .string x.K, .string x.L] 46) (dZ) ∧ wb.heap[X]? = some (dO P3 (.slice (some ⟨g7, 0, none⟩) m2 c7') 0 M (.slice (some ⟨gt, 0, none⟩) tn ct) R) ∧ OwnU wb (w.heap.size + 3) g8 (tn + 1) c8 (t ++ [(nn, 0, P3.s)])) ∧ G.OwnN wb (w.heap.size + 3) g7 m2 c7' Yl) := ⟨⟨HSB.out.1.1.grown hgb (fun m hm => by have := Option.some.inj hm; have := HSB.out.1.2.2.ge; omega), row_grown HSB.out.1.2.1 hgb (fun e => by have := Option.some.inj e; omega), hob⟩, own_grownM HSB.out.2 hgb (fun g e e2 => by have e3 := Option.some.inj e2; subst e3; exact ouG_ne HSB.out.1.2.2 HSB.out.2 (Option.some.inj e))⟩
      have hg8 : w.heap.size + 3 ≤ g8 := hob.ge
      have hx8 : g8 ≠ X := fun e => own_neT hob HSC.out.1.2.1 (by decide) g8 rfl e
      clear hob hgb HSB HRB HSA ka
      go_wp2_with (refine listStoreU rfl rfl _ _ _ rfl rfl X 15 (tn + 1) c8 (some ⟨g8, 0, none⟩) rfl rfl HSC.out.1.2.1 (by simp) ?_)
      intro wf hput
      have HSD : Hid ((PT w wf (dO p (.slice a n cap) al m (.slice ta tn tc) rf) (.cells #[.int .i64 x.i.b, .string x.K, .string x.L] 46) (dZ) ∧ wf.heap[X]? = some (dO P3 (.slice (some ⟨g7, 0, none⟩) m2 c7') 0 M (.slice (some ⟨g8, 0, none⟩) (tn + 1) c8) R) ∧ OwnU wf (w.heap.size + 3) g8 (tn + 1) c8 (t ++ [(nn, 0, P3.s)])) ∧ G.OwnN wf (w.heap.size + 3) g7 m2 c7' Yl) := ⟨⟨HSC.out.1.1.put hput hX, hput.1, own_putM HSC.out.1.2.2 hput (fun g e => by have e' := Option.some.inj e; dsimp only at e'; omega)⟩, own_putM HSC.out.2 hput (own_neT HSC.out.2 HSC.out.1.2.1 (by decide))⟩
      clear hput HSC
      go_upto_region 27 with fail
      go_wp2_with (first | refine wpList_load_row rfl _ _ rfl X rfl _ _ _ _ HSD.out.1.2.1 Tryz.underlying37 rfl (by kernel_rfl) ?_ | refine listStoreD rfl rfl _ _ _ rfl rfl (w.heap.size + 2) (dR P3 (.slice (some ⟨g7, 0, none⟩) m2 c7') 0 M (.slice (some ⟨g8, 0, none⟩) (tn + 1) c8) R) rfl rfl rfl (by kernel_rfl) HSD.out.1.1.z rfl ?_)
      intro wg hput
      have HBG : Hid (Below w.heap.size w wg) := hput.2.2.2 _ _ (by omega) HSD.out.1.1.b
      have HZG := aqTdS2 hput.1
      have HUG : Hid (OwnU wg (w.heap.size + 3) g8 (tn + 1) c8 (t ++ [(nn, 0, P3.s)])) := own_putM HSD.out.1.2.2 hput (fun g e => by have e' := Option.some.inj e; dsimp only at e'; omega)
      have HNG : Hid (G.OwnN wg (w.heap.size + 3) g7 m2 c7' Yl) := own_putM HSD.out.2 hput (fun g e => by have := own_ge HSD.out.2 g e; omega)
      clear hput HSD
      obtain rfl : (⟨P3, Yl, 0, M, t ++ [(nn, 0, P3.s)], R⟩ : Dv) = D2 := by rw [← HD2.out, HFIN.out]
      rename_i hret
      refine hret _ _ ?_
      first | refine wp_ret ?_ | skip
      first | change bodyPost Tryz.prog _ _ Exit.ret _ wg | skip
      refine bodyPost_ret (v := .agg #[.int .i64 P3.s, .int .i64 P3.n, .int .i64 P3.d, .int .i64 P3.r, .int .i64 P3.l, .int .i64 P3.b, .int .i64 P3.g, .int .i64 P3.k, .slice (some ⟨g7, 0, none⟩) m2 c7', .int .i64 0, .int .i64 M.a, .bool M.b, .int .i64 M.n, .int .i64 M.d, .string ⟨M.s.toArray⟩, .slice (some ⟨g8, 0, none⟩) (tn + 1) c8, .int .i64 R]) ?_ ?_ ?_
      · exact results_cell_row Tryz.results17 _ _ (w.heap.size + 2) _ _ _ _ rfl HZG.out Tryz.underlying37 rfl (by kernel_rfl)
      · rfl
      · exact ⟨g7, c7', m2, g8, c8, rfl, G.own_mono HNG.out (by omega), HUG.out.mono (by omega), HBG.out⟩
     ·
      have hP3e : P = P3 := by have h := HP3.out; rw [if_neg h0] at h; exact h
      have ha2 : (al2 == 0) = false := by simpa using h0
      subst hP3e
      have HS8 := aqTdS2 HS5.out
      clear HS5 k5
      have k8 := box17_cells HS8.out.1.2.1
      have HR8 : Hid (G.Rd _ (some ⟨g5, 0, none⟩) l) := gown_rd HS8.out.2
      have hX8 := row_lt HS8.out.1.2.1
      have hP8 := HS8.out.1.1.lt
      go_wp2_with fail
      refine (G.passS (some ⟨g5, 0, none⟩) al2 l n c5 nn true Yl m2 HYL.out HM2.out HL.out (by omega) (fun e => by cases e) ⟨fun _ => HG2.out, fun _ => rfl⟩ _ HR8.out).mono ?_
      rintro e w9 ⟨g7, c7', rfl, ho, hb⟩
      have hg7 := G.own_ge ho g7 rfl
      have HS9 : Hid ((PT w w9 (dO p (.slice a n cap) al m (.slice ta tn tc) rf) (.cells #[.int .i64 x.i.b, .string x.K, .string x.L] 46) (dZ) ∧ w9.heap[X]? = some (dO P (.slice (some ⟨g5, 0, none⟩) n c5) al2 M (.slice (some ⟨gt, 0, none⟩) tn ct) R) ∧ OwnU w9 (w.heap.size + 3) gt tn ct t) ∧ G.OwnN w9 (w.heap.size + 3) g7 m2 c7' Yl) := ⟨⟨HS8.out.1.1.on hb, row_on HS8.out.1.2.1 hb, HS8.out.1.2.2.on hb⟩, G.own_mono ho (by omega)⟩
      clear ho hb HS8 k8 HR8
      go_wp2_with (refine listGuard rfl rfl _ _ _ rfl X (.slice (some ⟨g7, 0, none⟩) m2 c7') (.int .i64 al2) rfl rfl HS9.out.1.2.1 (by kernel_rfl) (by kernel_rfl) ?_)
      intro wa hput
      have HSA : Hid ((PT w wa (dO p (.slice a n cap) al m (.slice ta tn tc) rf) (.cells #[.int .i64 x.i.b, .string x.K, .string x.L] 46) (dZ) ∧ wa.heap[X]? = some (dO P (.slice (some ⟨g7, 0, none⟩) m2 c7') al2 M (.slice (some ⟨gt, 0, none⟩) tn ct) R) ∧ OwnU wa (w.heap.size + 3) gt tn ct t) ∧ G.OwnN wa (w.heap.size + 3) g7 m2 c7' Yl) := ⟨⟨HS9.out.1.1.put hput hX, hput.1, own_putM HS9.out.1.2.2 hput (fun g e => by have e' := Option.some.inj e; dsimp only at e'; omega)⟩, own_putM HS9.out.2 hput (fun g e => by have e' := Option.some.inj e; dsimp only at e'; omega)⟩
      clear hput HS9
      have ka := box17_cells HSA.out.1.2.1
      have HSB : Hid ((PT w (wa.alloc (.cells #[.int .i64 nn, .int .i64 al2, .int .i64 P.s] 64)) (dO p (.slice a n cap) al m (.slice ta tn tc) rf) (.cells #[.int .i64 x.i.b, .string x.K, .string x.L] 46) (dZ) ∧ (wa.alloc (.cells #[.int .i64 nn, .int .i64 al2, .int .i64 P.s] 64)).heap[X]? = some (dO P (.slice (some ⟨g7, 0, none⟩) m2 c7') al2 M (.slice (some ⟨gt, 0, none⟩) tn ct) R) ∧ OwnU (wa.alloc (.cells #[.int .i64 nn, .int .i64 al2, .int .i64 P.s] 64)) (w.heap.size + 3) gt tn ct t) ∧ G.OwnN (wa.alloc (.cells #[.int .i64 nn, .int .i64 al2, .int .i64 P.s] 64)) (w.heap.size + 3) g7 m2 c7' Yl) := ⟨⟨HSA.out.1.1.on (alM _ _), row_on HSA.out.1.2.1 (alM _ _), HSA.out.1.2.2.on (alM _ _)⟩, own_keep HSA.out.2 (alM _ _) (own_lt HSA.out.2)⟩
      have HRB : Hid (RdY (wa.alloc (.cells #[.int .i64 nn, .int .i64 al2, .int .i64 P.s] 64)) (some ⟨wa.heap.size, 0, none⟩) [(nn, al2, P.s)]) := (one_rowY wa nn al2 P.s).rd
      have hXa := row_lt HSA.out.1.2.1
      have hgu := HSB.out.1.2.2.lt
      have hPb := HSB.out.1.1.lt
      go_upto_region 26 with fail
      go_wp2_with (refine listY rfl (.tmp 123) (.tmp 132) rfl (w.heap.size + 3) gt tn ct t (some ⟨wa.heap.size, 0, none⟩) 1 1 [(nn, al2, P.s)] rfl rfl HSB.out.1.2.2 rfl (fun e => by cases e) HRB.out (by omega) (by omega) ?_)
      intro g8 c8 wb hob hgb
      have HSC : Hid ((PT w wb (dO p (.slice a n cap) al m (.slice ta tn tc) rf) (.cells #[.int .i64 x.i.b, .string x.K, .string x.L] 46) (dZ) ∧ wb.heap[X]? = some (dO P (.slice (some ⟨g7, 0, none⟩) m2 c7') al2 M (.slice (some ⟨gt, 0, none⟩) tn ct) R) ∧ OwnU wb (w.heap.size + 3) g8 (tn + 1) c8 (t ++ [(nn, al2, P.s)])) ∧ G.OwnN wb (w.heap.size + 3) g7 m2 c7' Yl) := ⟨⟨HSB.out.1.1.grown hgb (fun m hm => by have := Option.some.inj hm; have := HSB.out.1.2.2.ge; omega), row_grown HSB.out.1.2.1 hgb (fun e => by have := Option.some.inj e; omega), hob⟩, own_grownM HSB.out.2 hgb (fun g e e2 => by have e3 := Option.some.inj e2; subst e3; exact ouG_ne HSB.out.1.2.2 HSB.out.2 (Option.some.inj e))⟩
      have hg8 : w.heap.size + 3 ≤ g8 := hob.ge
      have hx8 : g8 ≠ X := fun e => own_neT hob HSC.out.1.2.1 (by decide) g8 rfl e
      clear hob hgb HSB HRB HSA ka
      go_wp2_with (refine listStoreU rfl rfl _ _ _ rfl rfl X 15 (tn + 1) c8 (some ⟨g8, 0, none⟩) rfl rfl HSC.out.1.2.1 (by simp) ?_)
      intro wf hput
      have HSD : Hid ((PT w wf (dO p (.slice a n cap) al m (.slice ta tn tc) rf) (.cells #[.int .i64 x.i.b, .string x.K, .string x.L] 46) (dZ) ∧ wf.heap[X]? = some (dO P (.slice (some ⟨g7, 0, none⟩) m2 c7') al2 M (.slice (some ⟨g8, 0, none⟩) (tn + 1) c8) R) ∧ OwnU wf (w.heap.size + 3) g8 (tn + 1) c8 (t ++ [(nn, al2, P.s)])) ∧ G.OwnN wf (w.heap.size + 3) g7 m2 c7' Yl) := ⟨⟨HSC.out.1.1.put hput hX, hput.1, own_putM HSC.out.1.2.2 hput (fun g e => by have e' := Option.some.inj e; dsimp only at e'; omega)⟩, own_putM HSC.out.2 hput (own_neT HSC.out.2 HSC.out.1.2.1 (by decide))⟩
      clear hput HSC
      go_upto_region 27 with fail
      go_wp2_with (first | refine wpList_load_row rfl _ _ rfl X rfl _ _ _ _ HSD.out.1.2.1 Tryz.underlying37 rfl (by kernel_rfl) ?_ | refine listStoreD rfl rfl _ _ _ rfl rfl (w.heap.size + 2) (dR P (.slice (some ⟨g7, 0, none⟩) m2 c7') al2 M (.slice (some ⟨g8, 0, none⟩) (tn + 1) c8) R) rfl rfl rfl (by kernel_rfl) HSD.out.1.1.z rfl ?_)
      intro wg hput
      have HBG : Hid (Below w.heap.size w wg) := hput.2.2.2 _ _ (by omega) HSD.out.1.1.b
      have HZG := aqTdS2 hput.1
      have HUG : Hid (OwnU wg (w.heap.size + 3) g8 (tn + 1) c8 (t ++ [(nn, al2, P.s)])) := own_putM HSD.out.1.2.2 hput (fun g e => by have e' := Option.some.inj e; dsimp only at e'; omega)
      have HNG : Hid (G.OwnN wg (w.heap.size + 3) g7 m2 c7' Yl) := own_putM HSD.out.2 hput (fun g e => by have := own_ge HSD.out.2 g e; omega)
      clear hput HSD
      obtain rfl : (⟨P, Yl, al2, M, t ++ [(nn, al2, P.s)], R⟩ : Dv) = D2 := by rw [← HD2.out, HFIN.out]
      rename_i hret
      refine hret _ _ ?_
      first | refine wp_ret ?_ | skip
      first | change bodyPost Tryz.prog _ _ Exit.ret _ wg | skip
      refine bodyPost_ret (v := .agg #[.int .i64 P.s, .int .i64 P.n, .int .i64 P.d, .int .i64 P.r, .int .i64 P.l, .int .i64 P.b, .int .i64 P.g, .int .i64 P.k, .slice (some ⟨g7, 0, none⟩) m2 c7', .int .i64 al2, .int .i64 M.a, .bool M.b, .int .i64 M.n, .int .i64 M.d, .string ⟨M.s.toArray⟩, .slice (some ⟨g8, 0, none⟩) (tn + 1) c8, .int .i64 R]) ?_ ?_ ?_
      · exact results_cell_row Tryz.results17 _ _ (w.heap.size + 2) _ _ _ _ rfl HZG.out Tryz.underlying37 rfl (by kernel_rfl)
      · rfl
      · exact ⟨g7, c7', m2, g8, c8, rfl, G.own_mono HNG.out (by omega), HUG.out.mono (by omega), HBG.out⟩
end Go.Proofs.YtfhhnelffldggaaGreatDoor
