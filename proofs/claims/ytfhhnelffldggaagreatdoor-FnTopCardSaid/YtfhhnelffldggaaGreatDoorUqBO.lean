/-
  areInputs and RunDevice of the program.
-/
import Derived.Test.YtfhhnelffldggaaGreatDoorUqAC
import Derived.Test.YtfhhnelffldggaaGreatDoorUqBL
import Derived.Test.YtfhhnelffldggaaGreatDoorUqBN
import Derived.Test.YtfhhnelffldggaaGreatDoorUqAI
import Derived.Test.YtfhhnelffldggaaGreatDoorUqAV
import Derived.Test.YtfhhnelffldggaaGreatDoorUqAS
import Derived.Test.YtfhhnelffldggaaGreatDoorUqBJ
import Derived.Deep.DeepCutAuto
import Derived.Test.YtfhhnelffldggaaGreatDoorUqAX
import Derived.Test.YtfhhnelffldggaaGreatDoorUqAQ
import Derived.Test.YtfhhnelffldggaaGreatDoorUqBA
import Derived.Test.YtfhhnelffldggaaGreatDoorUqBK
set_option maxRecDepth 100000
set_option maxHeartbeats 16000000
namespace Go.Proofs.YtfhhnelffldggaaGreatDoor
open Go.RowKit Go.PlainAid
set_option linter.unusedVariables false
set_option linter.unusedSimpArgs false
theorem inOk_of {x : Inp} (h : x.ok) : inOkB x.t3 = true := decide_eq_true ⟨h.2.2.1, h.2.2.2.1, h.2.2.2.2⟩
theorem allin_of {xs : List Inp} (h : ∀ x ∈ xs, x.ok) : (xs.map Inp.t3).all inOkB = true := by
 rw [List.all_eq_true]
 intro y hy
 obtain ⟨x, hx, rfl⟩ := List.mem_map.1 hy
 exact inOk_of (h x hx)
theorem areIn (a : Option Addr) (l : List In3) (n cap : Nat) (B : Bool) (hB : l.all inOkB = B) (hl : l.length = n) (hn : n ≤ 1048576) (w : World) (hr : RdZ w a l) :
  Calls Tryz.prog 29 #[.slice a n cap] w fun e w' => e = .returned (.bool B) ∧ Below w.heap.size w w' := by
 have HL := hq hl
 have HB := hq hB
 have HR := hq hr
 clear hl hB hr
 go_enter Tryz.func29, Tryz.ntmps29
 go_wp2_with fail
 go_loopg [7] n (fun gk i wr => ∃ (j : Nat), j + gk = n ∧ i = .int .i64 j ∧ Hid ((l.take j).all inOkB = true) ∧ Hid (Below w.heap.size w wr))
 case atStart => exact ⟨0, by omega, rfl, rfl, Below.refl _ _⟩
 case round =>
  obtain ⟨j, hj, rfl, HA, HBw⟩ := hrel
  by_cases hlt : j < n
  ·
   have hjl : j < l.length := by rw [HL.out]; exact hlt
   obtain ⟨gz, off, rfl, hc⟩ := HR.out.keep HBw.out (Nat.le_refl _) (by omega)
   have c3 := hc j hjl
   obtain ⟨⟨xb, xK, xL⟩, he⟩ : ∃ y, l[j] = y := ⟨_, rfl⟩
   rw [he] at c3
   dsimp only at c3
   obtain ⟨B1, hB1⟩ : ∃ B1, inOkB (xb, xK, xL) = B1 := ⟨_, rfl⟩
   have HB1 := hq hB1
   have HE := hq he
   have j0 : (0 : Int) ≤ j := by omega
   have j1 : (j : Int) < n := by omega
   have qj : IntKind.i64.wrap ((j : Int) + 1) = (j : Int) + 1 := wrap_in (by omega) (by omega)
   have HB2 : Hid (Below w.heap.size w (wr.alloc (.cells #[.int .i64 xb, .string xK, .string xL] 46))) := bel_on (Nat.le_refl _) HBw.out (alM _ _)
   have i4 := box3i_cells (heap_new wr (.cells #[.int .i64 xb, .string xK, .string xL] 46))
   clear hc he hB1
   go_wp2_with fail
   refine (inokI xb xK xL B1 HB1.out _).mono ?_
   rintro e w2 ⟨rfl, hbc⟩
   have HB3 := bq HB2 hbc
   clear hbc HB2 c3 i4
   cases B1
   ·
    obtain rfl : false = B := by
     rw [← HB.out]
     cases h : l.all inOkB
     · rfl
     · exact absurd (List.all_eq_true.1 h _ (List.getElem_mem hjl)) (by rw [HE.out]; show ¬ (inOkB _ = true); rw [show inOkB (xb, xK, xL) = false from HB1.out]; decide)
    go_wp2
    go_ret
    exact ⟨rfl, HB3.out⟩
   ·
    have HA2 : Hid ((l.take (j + 1)).all inOkB = true) := by
     show _ = _
     rw [← List.take_append_getElem hjl, List.all_append, HA.out, HE.out]
     show (true && (inOkB (xb, xK, xL) && true)) = true
     rw [show inOkB (xb, xK, xL) = true from HB1.out]
     rfl
    go_wp2
    go_roundg (gk - 1)
    case measure => omega
    case rel => exact ⟨j + 1, by omega, by go_num, HA2, HB3⟩
  ·
   obtain rfl : true = B := by
    have h := HA.out
    rw [List.take_of_length_le (by rw [HL.out]; omega), HB.out] at h
    exact h.symm
   have hne : ¬ ((j : Int) < n) := by omega
   go_wp2
   go_ret
   exact ⟨rfl, HBw.out⟩
theorem devNewI (w : World) : Calls Tryz.prog 14 #[] w fun e w' => e = .returned (.agg #[.int .i64 newP.s, .int .i64 newP.n, .int .i64 newP.d, .int .i64 newP.r, .int .i64 newP.l, .int .i64 newP.b, .int .i64 newP.g, .int .i64 newP.k, .slice none 0 0, .int .i64 0, .int .i64 newM.a, .bool newM.b, .int .i64 newM.n, .int .i64 newM.d, .string ⟨newM.s.toArray⟩, .slice none 0 0, .int .i64 0]) ∧ Below w.heap.size w w' := dnewI w
theorem runI (xs : List Inp) (hok : ∀ x ∈ xs, x.ok) (a : Option Addr) (n cap : Nat) (hl : xs.length = n) (hn : n ≤ 150) (p2 : Pm) (l2 : List Int) (al2 : Int) (m2 : Mn) (t2 : List Tk3) (rf2 : Int) (hD : runD newD (xs.map (·.i)) = ⟨p2, l2, al2, m2, t2, rf2⟩) (w : World) (ht : Q.Tab w) (hr : RdZ w a (xs.map Inp.t3)) :
  Calls Tryz.prog 8 #[.slice a n cap] w fun e w' => ∃ g nn c gt tn ct, e = .returned (.tuple #[.agg #[.int .i64 p2.s, .int .i64 p2.n, .int .i64 p2.d, .int .i64 p2.r, .int .i64 p2.l, .int .i64 p2.b, .int .i64 p2.g, .int .i64 p2.k, .slice (some ⟨g, 0, none⟩) nn c, .int .i64 al2, .int .i64 m2.a, .bool m2.b, .int .i64 m2.n, .int .i64 m2.d, .string ⟨m2.s.toArray⟩, .slice (some ⟨gt, 0, none⟩) tn ct, .int .i64 rf2], .bool true]) ∧ G.OwnN w' w.heap.size g nn c l2 ∧ OwnU w' w.heap.size gt tn ct t2 ∧ Below w.heap.size w w' := by
 have HOK := hq hok
 have HL := hq hl
 have HD := hq hD
 have HT := hq ht
 have HR := hq hr
 obtain ⟨W0, hW0⟩ : ∃ W0, (w.alloc (dZ)) = W0 := ⟨_, rfl⟩
 have HZ0 : Hid (W0.heap[w.heap.size]? = some (dZ)) := by rw [← hW0]; exact heap_new w _
 have HB0 : Hid (Below w.heap.size w W0) := by rw [← hW0]; exact alM _ _
 have hs0 : W0.heap.size = w.heap.size + 1 := by rw [← hW0]; simp
 have HS0 := hq hs0
 have hnn : ¬ ((150 : Int) < n) := by omega
 clear hok hl hD ht hr
 go_enter Tryz.func8, Tryz.ntmps8
 go_upto_region 1 with fail
 (try rw [hW0])
 clear hW0
 go_wp2_with fail
 refine (areIn a (xs.map Inp.t3) n cap true (allin_of HOK.out) (by rw [List.length_map]; exact HL.out) (by omega) _ (HR.out.keep HB0.out (Nat.le_refl _))).mono ?_
 rintro e w1 ⟨rfl, hbc⟩
 have HB1 : Hid (Below (w.heap.size + 1) W0 w1) := by rw [← hs0]; exact hbc
 clear hbc
 go_wp2_with fail
 refine (devNewI _).mono ?_
 rintro e w2 ⟨rfl, hbc⟩
 have HB2 : Hid (Below (w.heap.size + 1) W0 w2) := bel_on (by omega) HB1.out hbc
 clear hbc HB1
 go_wp2_with fail
 refine (devofI newP none 0 0 [] 0 newM none 0 0 [] 0 rfl (by omega) rfl (by omega) (by decide) _ (fun h => by simp at h) (fun h => by simp at h)).mono ?_
 rintro e w3 ⟨k, g1, g3, rfl, hX, hk, hG, hU, hbc⟩
 have hs2 : w.heap.size + 1 ≤ w2.heap.size := by have := HB2.out.size; omega
 have HI : Hid (∃ (p : Pm) (l : List Int) (al : Int) (m : Mn) (t : List Tk3) (rf : Int) (g nn c gt tn ct : Nat), Hid (runD newD ((xs.take 0).map (·.i)) = ⟨p, l, al, m, t, rf⟩) ∧ Hid (w3.heap[k]? = some (.cells (dR p (.slice (some ⟨g, 0, none⟩) nn c) al m (.slice (some ⟨gt, 0, none⟩) tn ct) rf) 112)) ∧ Hid (G.OwnN w3 (w.heap.size + 1) g nn c l) ∧ Hid (OwnU w3 (w.heap.size + 1) gt tn ct t) ∧ Hid (Below (w.heap.size + 1) W0 w3)) := ⟨newP, [], 0, newM, [], 0, g1, 0, 0, g3, 0, 0, rfl, hX, hG.mono hs2, hU.mono hs2, bel_on (by omega) HB2.out hbc⟩
 have hkw : w.heap.size + 1 ≤ k := by omega
 clear hX hG hU hbc hk HB2 hs2
 go_wp2_with fail
 go_loopg [20] n (fun gk i wr => ∃ (j : Nat), j + gk = n ∧ i = .int .i64 j ∧ Hid (∃ (p : Pm) (l : List Int) (al : Int) (m : Mn) (t : List Tk3) (rf : Int) (g nn c gt tn ct : Nat), Hid (runD newD ((xs.take j).map (·.i)) = ⟨p, l, al, m, t, rf⟩) ∧ Hid (wr.heap[k]? = some (.cells (dR p (.slice (some ⟨g, 0, none⟩) nn c) al m (.slice (some ⟨gt, 0, none⟩) tn ct) rf) 112)) ∧ Hid (G.OwnN wr (w.heap.size + 1) g nn c l) ∧ Hid (OwnU wr (w.heap.size + 1) gt tn ct t) ∧ Hid (Below (w.heap.size + 1) W0 wr)))
 case atStart => exact ⟨0, by omega, rfl, HI⟩
 case round =>
  clear HI
  obtain ⟨j, hj, rfl, HI⟩ := hrel
  obtain ⟨p, l, al, m, t, rf, g, nn, c, gt, tn, ct, HRN, HX, HG, HU, HB⟩ := HI
  have HBw : Hid (Below w.heap.size w wr) := HB0.out.trans (HB.out.mono (Nat.le_succ _))
  by_cases hlt : j < n
  ·
   have hjl : j < xs.length := by rw [HL.out]; exact hlt
   obtain ⟨gz, off, rfl, hc⟩ := HR.out.keep HBw.out (Nat.le_refl _) (by rw [List.length_map, HL.out]; omega)
   have c3 := hc j (by rw [List.length_map]; exact hjl)
   obtain ⟨x, hx⟩ : ∃ x, xs[j] = x := ⟨_, rfl⟩
   rw [List.getElem_map, hx] at c3
   unfold Inp.t3 at c3
   dsimp only at c3
   have HXO : Hid x.ok := by have h := HOK.out _ (List.getElem_mem hjl); rw [hx] at h; exact h
   have hrok := run_okD ((xs.take j).map (·.i)) newD_ok (fun i hi => by
    obtain ⟨y, hy, rfl⟩ := List.mem_map.1 hi
    exact (HOK.out y (List.mem_of_mem_take hy)).ic)
   rw [HRN.out] at hrok
   obtain ⟨h1, h2, h3⟩ := hrok
   have HDO := hq h1
   have htn : tn ≤ 100000 := by
    have h4 := HU.out.len
    rw [List.length_map, List.length_take] at h2
    dsimp only [newD] at h2
    have : ([] : List Tk3).length = 0 := rfl
    omega
   have hrf : rf ≤ 900000000 := by
    rw [List.length_map, List.length_take] at h3
    dsimp only [newD] at h3
    omega
   obtain ⟨⟨p3, l3, al3, m3, t3, rf3⟩, hT⟩ : ∃ y, tickD ⟨p, l, al, m, t, rf⟩ x.i = y := ⟨_, rfl⟩
   have HT3 := hq hT
   have HRN2 : Hid (runD newD ((xs.take (j + 1)).map (·.i)) = ⟨p3, l3, al3, m3, t3, rf3⟩) := by
    show _ = _
    rw [← List.take_append_getElem hjl, List.map_append, runD_app, HRN.out, hx]
    exact hT
   have j0 : (0 : Int) ≤ j := by omega
   have j1 : (j : Int) < n := by omega
   have qj : IntKind.i64.wrap ((j : Int) + 1) = (j : Int) + 1 := wrap_in (by omega) (by omega)
   clear h1 h2 h3 hc hT HRN hx
   obtain ⟨⟨xi, xK, xL⟩, hxx⟩ : ∃ y, x = y := ⟨_, rfl⟩
   subst hxx
   dsimp only at c3
   have i4 := box3i_cells (heap_new wr (.cells #[.int .i64 xi.b, .string xK, .string xL] 46))
   have HX2 : Hid ((wr.alloc (.cells #[.int .i64 xi.b, .string xK, .string xL] 46)).heap[k]? = some (.cells (dR p (.slice (some ⟨g, 0, none⟩) nn c) al m (.slice (some ⟨gt, 0, none⟩) tn ct) rf) 112)) := row_on HX.out (alM _ _)
   have HG2 : Hid (G.OwnN (wr.alloc (.cells #[.int .i64 xi.b, .string xK, .string xL] 46)) (w.heap.size + 1) g nn c l) := HG.out.on (alM _ _)
   have HU2 : Hid (OwnU (wr.alloc (.cells #[.int .i64 xi.b, .string xK, .string xL] 46)) (w.heap.size + 1) gt tn ct t) := HU.out.on (alM _ _)
   have HB2 : Hid (Below (w.heap.size + 1) W0 (wr.alloc (.cells #[.int .i64 xi.b, .string xK, .string xL] 46))) := bel_on (by omega) HB.out (alM _ _)
   have HTb : Hid (Q.Tab (wr.alloc (.cells #[.int .i64 xi.b, .string xK, .string xL] 46))) := Q.tab_below HT.out (bel_on (Nat.le_refl _) HBw.out (alM _ _))
   clear HX HG HU HB HBw
   go_wp2_with fail
   refine (tickI k (w.heap.size + 1) p l al m t rf g nn c gt tn ct ⟨xi, xK, xL⟩ HXO.out HDO.out htn hrf hkw p3 l3 al3 m3 t3 rf3 HT3.out _ HTb.out HX2.out HG2.out HU2.out).mono ?_
   rintro e w5 ⟨rfl, g5, n5, c5, gt5, tn5, ct5, hX, hG, hU, hbc⟩
   have HI : Hid (∃ (p : Pm) (l : List Int) (al : Int) (m : Mn) (t : List Tk3) (rf : Int) (g nn c gt tn ct : Nat), Hid (runD newD ((xs.take (j + 1)).map (·.i)) = ⟨p, l, al, m, t, rf⟩) ∧ Hid (w5.heap[k]? = some (.cells (dR p (.slice (some ⟨g, 0, none⟩) nn c) al m (.slice (some ⟨gt, 0, none⟩) tn ct) rf) 112)) ∧ Hid (G.OwnN w5 (w.heap.size + 1) g nn c l) ∧ Hid (OwnU w5 (w.heap.size + 1) gt tn ct t) ∧ Hid (Below (w.heap.size + 1) W0 w5)) := ⟨p3, l3, al3, m3, t3, rf3, g5, n5, c5, gt5, tn5, ct5, HRN2, hX, hG, hU, HB2.out.trans hbc⟩
   clear hX hG hU hbc HX2 HG2 HU2 HB2 HTb c3 i4 HT3 HRN2
   go_wp2
   go_roundg (gk - 1)
   case measure => omega
   case rel => exact ⟨j + 1, by omega, by go_num, HI⟩
  ·
   have hRF := HRN.out
   rw [List.take_of_length_le (by rw [HL.out]; omega), HD.out] at hRF
   obtain ⟨rfl, rfl, rfl, rfl, rfl, rfl⟩ : p = p2 ∧ l = l2 ∧ al = al2 ∧ m = m2 ∧ t = t2 ∧ rf = rf2 := by cases hRF; exact ⟨rfl, rfl, rfl, rfl, rfl, rfl⟩
   have hne : ¬ ((j : Int) < n) := by omega
   clear hRF HRN HD
   go_wp2_with fail
   refine (toldI k p g nn c al m gt tn ct rf _ HX.out).mono ?_
   rintro e w6 ⟨rfl, hbc⟩
   have hsw : w.heap.size < wr.heap.size := by have := HB.out.size; omega
   have HZ6 : Hid (w6.heap[w.heap.size]? = some (dZ)) := ((hbc.block _ hsw).trans (HB.out.block _ (Nat.lt_succ_self _))).trans HZ0.out
   have HG6 : Hid (G.OwnN w6 w.heap.size g nn c l) := (HG.out.on hbc).mono (Nat.le_succ _)
   have HU6 : Hid (OwnU w6 w.heap.size gt tn ct t) := (HU.out.on hbc).mono (Nat.le_succ _)
   have HB6 := bq HBw hbc
   clear hbc HX HG HU HB HBw
   go_wp2_with (refine listStoreD rfl rfl _ _ _ rfl rfl w.heap.size (dR p (.slice (some ⟨g, 0, none⟩) nn c) al m (.slice (some ⟨gt, 0, none⟩) tn ct) rf) rfl rfl rfl (by kernel_rfl) HZ6.out rfl ?_)
   intro w7 hput
   have HZ7 := hq hput.1
   have HG7 : Hid (G.OwnN w7 w.heap.size g nn c l) := own_putM HG6.out hput (own_ne HG6.out HZ6.out (by decide))
   have HU7 : Hid (OwnU w7 w.heap.size gt tn ct t) := own_putM HU6.out hput (own_ne HU6.out HZ6.out (by decide))
   have HB7 := hq (hput.2.2.2 _ _ (Nat.le_refl _) HB6.out)
   clear hput HZ6 HG6 HU6 HB6
   go_wp2
   refine bodyPost_ret (v := .tuple #[.agg #[.int .i64 p.s, .int .i64 p.n, .int .i64 p.d, .int .i64 p.r, .int .i64 p.l, .int .i64 p.b, .int .i64 p.g, .int .i64 p.k, .slice (some ⟨g, 0, none⟩) nn c, .int .i64 al, .int .i64 m.a, .bool m.b, .int .i64 m.n, .int .i64 m.d, .string ⟨m.s.toArray⟩, .slice (some ⟨gt, 0, none⟩) tn ct, .int .i64 rf], .bool true]) (results2_row Tryz.results8 _ _ w.heap.size _ _ _ (.bool true) rfl rfl HZ7.out (by kernel_rfl) (by kernel_rfl)) rfl ⟨g, nn, c, gt, tn, ct, rfl, HG7.out, HU7.out, HB7.out⟩
theorem sumT_bd : ∀ (l : List Tk3), (∀ x ∈ l, 0 ≤ x.1 ∧ x.1 ≤ 30) → 0 ≤ sumT l ∧ sumT l ≤ 30 * (l.length : Int)
 | [], _ => by simp [sumT]
 | x :: l, h => by
  have h1 := h x (List.mem_cons_self ..)
  have h2 := sumT_bd l (fun y hy => h y (List.mem_cons_of_mem _ hy))
  simp only [sumT, List.length_cons]
  push_cast
  omega
theorem intoSd (x : Int) (h0 : -1000000000000 ≤ x) (h1 : x ≤ 1000000000000) (w : World) : Calls Tryz.prog 152 #[.int .i64 x] w fun e w' => e = .returned (.int .i64 x) ∧ w' = w := by
 have q1 : ¬ ((1000000000000 : Int) < x) := by omega
 have q2 : ¬ (x < (-1000000000000 : Int)) := by omega
 go_enter Tryz.func152, Tryz.ntmps152
 go_wp2
 go_ret
 exact ⟨rfl, rfl⟩
theorem addSd (a b s : Int) (hs : IntKind.i64.wrap (a + b) = s) (a0 : 0 ≤ a) (a1 : a ≤ 1000000) (b0 : 0 ≤ b) (b1 : b ≤ 1000000) (s0 : 0 ≤ s) (s1 : s ≤ 2000000) (w : World) : Calls Tryz.prog 98 #[.int .i64 a, .int .i64 b] w fun e w' => e = .returned (.int .i64 s) ∧ w' = w := by
 go_enter Tryz.func98, Tryz.ntmps98
 go_wp2_with fail
 refine (intoSd a (by omega) (by omega) _).mono ?_
 rintro e w1 ⟨rfl, rfl⟩
 go_wp2_with fail
 refine (intoSd b (by omega) (by omega) _).mono ?_
 rintro e w2 ⟨rfl, rfl⟩
 go_wp2_with fail
 refine (intoSd s (by omega) (by omega) _).mono ?_
 rintro e w3 ⟨rfl, rfl⟩
 go_wp2
 go_ret
 exact ⟨rfl, rfl⟩
theorem totSd (a : Option Addr) (t : List Tk3) (n cap : Nat) (ht : t.length = n) (hn : n ≤ 1000) (hb : ∀ x ∈ t, 0 ≤ x.1 ∧ x.1 ≤ 30) (s : Int) (hs : sumT t = s) (w : World) (hr : RdY w a t) :
  Calls Tryz.prog 40 #[.slice a n cap] w fun e w' => e = .returned (.int .i64 s) ∧ w' = w := by
 have HT := hq ht
 have HBD := hq hb
 have HS := hq hs
 have HR := hq hr
 clear ht hb hs hr
 go_enter Tryz.func40, Tryz.ntmps40
 go_wp2_with fail
 go_loopg [3, 4] n (fun gk x i wr => ∃ (j : Nat) (z : Int), j + gk = n ∧ x = .int .i64 z ∧ i = .int .i64 j ∧ Hid (sumT (t.take j) = z) ∧ wr = w)
 case atStart => exact ⟨0, 0, by omega, rfl, rfl, rfl, rfl⟩
 case round =>
  obtain ⟨j, z, hj, rfl, rfl, HZ, rfl⟩ := hrel
  by_cases hlt : j < n
  ·
   have hjl : j < t.length := by rw [HT.out]; exact hlt
   obtain ⟨g, off, rfl, hc⟩ := HR.out (by omega)
   have c0 := (hc j hjl).1
   obtain ⟨⟨y, y1, y2⟩, hy⟩ : ∃ y, t[j] = y := ⟨_, rfl⟩
   rw [hy] at c0
   dsimp only at c0
   have hyb := HBD.out _ (List.getElem_mem hjl)
   rw [hy] at hyb
   dsimp only at hyb
   have hzb := sumT_bd (t.take j) (fun x hx => HBD.out x (List.mem_of_mem_take hx))
   rw [HZ.out, List.length_take] at hzb
   have HZ2 : Hid (sumT (t.take (j + 1)) = z + y) := by
    show _ = _
    rw [← List.take_append_getElem hjl, sumT_app, HZ.out, hy]
    simp [sumT]
   obtain ⟨z2, hz2⟩ : ∃ z2, z + y = z2 := ⟨_, rfl⟩
   rw [hz2] at HZ2
   have HE : Hid (IntKind.i64.wrap (z + y) = z2) := (wrap_in (by omega) (by omega)).trans hz2
   have hz2b : 0 ≤ z2 ∧ z2 ≤ 2000000 := by omega
   have hzb2 : 0 ≤ z ∧ z ≤ 1000000 := by omega
   have j0 : (0 : Int) ≤ j := by omega
   have j1 : (j : Int) < n := by omega
   have qj : IntKind.i64.wrap ((j : Int) + 1) = (j : Int) + 1 := wrap_in (by omega) (by omega)
   clear hc hy hz2 hzb HZ
   go_wp2_with fail
   refine (addSd z y z2 HE.out hzb2.1 hzb2.2 hyb.1 (by omega) hz2b.1 hz2b.2 _).mono ?_
   rintro e w2 ⟨rfl, rfl⟩
   clear c0
   go_wp2
   go_roundg (gk - 1)
   case measure => omega
   case rel => exact ⟨j + 1, z2, by omega, rfl, by go_num, HZ2, rfl⟩
  ·
   obtain rfl : z = s := by rw [← HZ.out, ← HS.out, List.take_of_length_le (by rw [HT.out]; omega)]
   have hne : ¬ ((j : Int) < n) := by omega
   go_wp2
   go_ret
   exact ⟨rfl, rfl⟩
theorem cells_duo {w : World} {k : Nat} {t : TypeId} {x y : Value} (h : w.heap[k]? = some (.cells #[x, y] t)) : (w.cell? ⟨k, 0, none⟩ = some x ∧ w.cell? ⟨k, 1, none⟩ = some y) ∧ w.frozen? ⟨k, 0, none⟩ = false ∧ w.frozen? ⟨k, 1, none⟩ = false := by
 refine ⟨⟨?_, ?_⟩, ?_, ?_⟩ <;> simp [World.cell?, World.frozen?, h]
theorem withP (s n : Int) (hs : 0 ≤ s ∧ s ≤ 100000) (hn : 0 ≤ n ∧ n ≤ 30) (w : World) : Calls Tryz.prog 92 #[.agg #[.int .i64 s, .int .i64 0], .int .i64 n] w fun e w' => e = .returned (.agg #[.int .i64 (s + n), .int .i64 0]) ∧ Below w.heap.size w w' := by
 have q0 : IntKind.i64.wrap (s + n) = s + n := wrap_in (by omega) (by omega)
 have q1 : ¬ s + n < s := by omega
 have q2 : ¬ n < 0 := by omega
 by_cases hz : n > 0
 ·
  go_enter Tryz.func92, Tryz.ntmps92
  go_wp2
  refine bodyPost_ret (v := .agg #[.int .i64 (s + n), .int .i64 0]) (by simp [results, Tryz.results92, go_sem]) rfl ⟨rfl, ?_⟩
  exact (((Below.refl _ _).alloc (Nat.le_refl _) _).alloc (by simp) _).alloc (by simp; omega) _
 ·
  go_enter Tryz.func92, Tryz.ntmps92
  go_wp2
  refine bodyPost_ret (v := .agg #[.int .i64 (s + n), .int .i64 0]) (by simp [results, Tryz.results92, go_sem]) rfl ⟨rfl, ?_⟩
  exact (((Below.refl _ _).alloc (Nat.le_refl _) _).alloc (by simp) _).alloc (by simp; omega) _
def SDuo (w W : World) (k : Nat) (cs : Array Value) (t : TypeId) : Prop := W.heap[k]? = some (.cells cs t) ∧ Below w.heap.size w W
theorem numberP (s : Int) (hs : 0 ≤ s ∧ s ≤ 100000) (w : World) : Calls Tryz.prog 93 #[.agg #[.int .i64 s, .int .i64 0]] w fun e w' => e = .returned (.int .i64 s) ∧ Below w.heap.size w w' := by
 obtain ⟨W0, hW0⟩ : ∃ W0, w.alloc (.cells #[.int .i64 s, .int .i64 0] 132) = W0 := ⟨_, rfl⟩
 have HB : Hid (Below w.heap.size w W0) := by rw [← hW0]; exact (Below.refl _ _).alloc (Nat.le_refl _) _
 have HX : Hid (W0.heap[w.heap.size]? = some (.cells #[.int .i64 s, .int .i64 0] 132)) := by rw [← hW0]; exact heap_new w _
 have kk := (cells_duo HX.out).1
 go_enter Tryz.func93, Tryz.ntmps93
 go_upto_region 5 with fail
 (try rw [hW0])
 clear hW0 kk
 have HK : SDuo w W0.drew w.heap.size #[.int .i64 s, .int .i64 0] 132 := ⟨HX.out, HB.out.drew⟩
 clear HX HB
 refine wp_region_held_drew (S := fun w' => SDuo w w' w.heap.size #[.int .i64 s, .int .i64 0] 132) (by kernel_rfl) HK (fun hHeld => ?_)
 refine tkQ 1 ?_ rfl ?_ ?_
 rotate_left
 · intro w_ hSw; clear hSw; (try clear hHeld); go_simp <;> with_reducible rfl
 try simp only [Act.put, sQ]
 refine tkQ 2 ?_ rfl ?_ ?_
 rotate_left
 · intro w_ hSw; (try dsimp only at hSw); have f0 := (cells_duo hSw.1).1; clear hSw; (try clear hHeld); go_simp <;> with_reducible rfl
 try simp only [Act.put, sQ]
 refine wpAnyH_ready (rs := [0]) (by kernel_rfl) (by simp) ?_
 refine AllReadyH.cons rfl (fun J hJ => ?_) AllReadyH.nil
 go_simp
 refine (bigI _).mono ?_
 rintro e w1 ⟨rfl, hb1⟩
 have HK1 : SDuo w w1 w.heap.size #[.int .i64 s, .int .i64 0] 132 := ⟨row_on HK.1 hb1, bel_on (Nat.le_refl _) HK.2 hb1⟩
 clear hb1 HK
 (try go_wp2_with fail)
 refine hJ.out _ _ HK1 (fun hHeld2 => ?_)
 clear hJ J hHeld
 try simp only [Act.put, sQ]
 refine wpAnyH_ready (rs := [3]) (by kernel_rfl) (by simp) ?_
 refine AllReadyH.cons rfl (fun J hJ => ?_) AllReadyH.nil
 go_simp
 refine (G.intoI (-1000000000000) 1000000000000 s s (by omega) _).mono ?_
 rintro e w2 ⟨rfl, hb2⟩
 have HK2 : SDuo w w2 w.heap.size #[.int .i64 s, .int .i64 0] 132 := ⟨row_on HK1.1 hb2, bel_on (Nat.le_refl _) HK1.2 hb2⟩
 have HBz : Hid (Below w.heap.size w w2) := HK2.2
 clear hb2 HK1
 (try go_wp2_with fail)
 refine hJ.out _ _ HK2 (fun hHeld3 => ?_)
 clear hJ J hHeld2
 try simp only [Act.put, sQ]
 refine tkQ 4 ?_ rfl ?_ ?_
 rotate_left
 · intro w_ hSw; clear hSw; (try clear hHeld3); go_simp <;> with_reducible rfl
 try simp only [Act.put, sQ]
 clear hHeld3 HK2
 refine wpAnyH_done (by kernel_rfl) ?_ _
 go_wp2
 go_ret
 exact ⟨rfl, HBz.out⟩
theorem sumT_take {l : List Tk3} {j : Nat} (h : j < l.length) : sumT (l.take (j + 1)) = sumT (l.take j) + l[j].1 := by
 rw [List.take_succ_eq_append_getElem h, sumT_app]
 simp [sumT]
theorem totalI (a : Option Addr) (l : List Tk3) (n cap : Nat) (hl : l.length = n) (hn : n ≤ 150) (hP : ∀ x ∈ l, 0 ≤ x.1 ∧ x.1 ≤ 30) (w : World) (hr : RdY w a l) :
  Calls Tryz.prog 36 #[.slice a n cap] w fun e w' => e = .returned (.int .i64 (sumT l)) ∧ Below w.heap.size w w' := by
 have HL := hq hl
 have HP := hq hP
 have HR := hq hr
 have HS : Hid (0 ≤ sumT l ∧ sumT l ≤ 30 * (l.length : Int)) := sumT_bd l hP
 obtain ⟨W0, hW0⟩ : ∃ W0, w.alloc (.cells #[.int .i64 0, .int .i64 0] 132) = W0 := ⟨_, rfl⟩
 have HB : Hid (Below w.heap.size w W0) := by rw [← hW0]; exact (Below.refl _ _).alloc (Nat.le_refl _) _
 have HX : Hid (W0.heap[w.heap.size]? = some (.cells #[.int .i64 0, .int .i64 0] 132)) := by rw [← hW0]; exact heap_new w _
 clear hl hP hr
 go_enter Tryz.func36, Tryz.ntmps36
 go_upto_region 2 with fail
 (try rw [hW0])
 clear hW0
 go_wp2
 go_loopw [8] (fun i wr => ∃ (j : Nat), j ≤ n ∧ i = .int .i64 j ∧ Hid (wr.heap[w.heap.size]? = some (.cells #[.int .i64 (sumT (l.take j)), .int .i64 0] 132)) ∧ Hid (Below w.heap.size w wr)) (fun i _ => n - (intOf i).toNat)
 case atStart => exact ⟨0, Nat.zero_le _, rfl, HX, HB⟩
 case round =>
  clear HX HB
  obtain ⟨j, hj, rfl, HX, HB⟩ := hrel
  by_cases hlt : j < n
  ·
   have hjl : j < l.length := by have := HL.out; omega
   obtain ⟨g, off, hag, hc⟩ := (HR.out.keep HB.out (Nat.le_refl _)) (by omega)
   obtain ⟨c0, c1, c2⟩ := hc j hjl
   obtain ⟨x, y, z, hx⟩ : ∃ x y z, l[j] = ((x, y, z) : Tk3) := ⟨_, _, _, rfl⟩
   rw [hx] at c0 c1 c2
   dsimp only at c0 c1 c2
   have HT : Hid (sumT (l.take (j + 1)) = sumT (l.take j) + x) := by show _ = _; rw [sumT_take hjl, hx]
   have hbx : 0 ≤ x ∧ x ≤ 30 := by have := HP.out _ (List.getElem_mem hjl); rw [hx] at this; exact this
   have hbs : 0 ≤ sumT (l.take j) ∧ sumT (l.take j) ≤ 100000 := by
    have := sumT_bd (l.take j) (fun x hx => HP.out x (List.mem_of_mem_take hx))
    rw [List.length_take] at this
    omega
   have i0 : (0 : Int) ≤ (j : Int) := by omega
   have i1 : (j : Int) < (n : Int) := by omega
   subst hag
   obtain ⟨S, hS⟩ : ∃ S, sumT (l.take j) = S := ⟨_, rfl⟩
   rw [hS] at HX HT hbs
   obtain ⟨W1, hW1⟩ : ∃ W1, wr.alloc (.cells #[.int .i64 x, .int .i64 y, .int .i64 z] 64) = W1 := ⟨_, rfl⟩
   have hba : Below wr.heap.size wr W1 := by rw [← hW1]; exact (Below.refl _ _).alloc (Nat.le_refl _) _
   have HX1 := rq HX hba
   have HB1 := bq HB hba
   have HY1 : Hid (W1.heap[wr.heap.size]? = some (.cells #[.int .i64 x, .int .i64 y, .int .i64 z] 64)) := by rw [← hW1]; exact heap_new wr _
   clear hc hx hjl hba hS HX HB
   go_upto_region 5 with fail
   (try rw [hW1])
   clear hW1 c0 c1 c2 i0 i1
   have f0 := (cells_duo HX1.out).1
   obtain ⟨⟨f1, _⟩, _⟩ := boxY_cells HY1.out
   go_wp2_with fail
   refine (withP S x hbs hbx _).mono ?_
   rintro e w2 ⟨rfl, hb2⟩
   have HX2 := rq HX1 hb2
   have HB2 := bq HB1 hb2
   clear hb2 HX1 HB1 HY1 f0 f1 hbs hbx
   obtain ⟨S2, hS2⟩ : ∃ S2, S + x = S2 := ⟨_, rfl⟩
   rw [hS2] at HT ⊢
   clear hS2
   have h1 := heap_setCell_same w2 w.heap.size 0 _ _ (.int .i64 S2) HX2.out
   have h2 := heap_setCell_same _ w.heap.size 1 _ _ (.int .i64 0) h1
   have HX3 : Hid (((w2.setCell ⟨w.heap.size, 0, none⟩ (.int .i64 S2)).setCell ⟨w.heap.size, 1, none⟩ (.int .i64 0)).heap[w.heap.size]? = some (.cells #[.int .i64 (sumT (l.take (j + 1))), .int .i64 0] 132)) := by rw [HT.out]; exact h2
   have HB3 : Hid (Below w.heap.size w ((w2.setCell ⟨w.heap.size, 0, none⟩ (.int .i64 S2)).setCell ⟨w.heap.size, 1, none⟩ (.int .i64 0))) := (HB2.out.setCell (p := ⟨w.heap.size, 0, none⟩) (Nat.le_refl _) _).setCell (p := ⟨w.heap.size, 1, none⟩) (Nat.le_refl _) _
   obtain ⟨f0, f2, f3⟩ := cells_duo HX2.out
   clear h1 h2 HX2 HB2 HT
   go_wp2
   go_roundw
   case rel => exact ⟨j + 1, by omega, by go_num, HX3, HB3⟩
   case measure => simp [intOf]; omega
  ·
   have HX : Hid (wr.heap[w.heap.size]? = some (.cells #[.int .i64 (sumT l), .int .i64 0] 132)) := by
    show _ = _
    have := HX.out
    rwa [List.take_of_length_le (by have := HL.out; omega)] at this
   have hbs : 0 ≤ sumT l ∧ sumT l ≤ 100000 := by have := HS.out; have := HL.out; omega
   have f0 := (cells_duo HX.out).1
   go_wp2_with fail
   refine (numberP (sumT l) hbs _).mono ?_
   rintro e w2 ⟨rfl, hb2⟩
   have HBz := bq HB hb2
   clear hb2 HX f0
   go_wp2
   go_ret
   exact ⟨rfl, HBz.out⟩
end Go.Proofs.YtfhhnelffldggaaGreatDoor
