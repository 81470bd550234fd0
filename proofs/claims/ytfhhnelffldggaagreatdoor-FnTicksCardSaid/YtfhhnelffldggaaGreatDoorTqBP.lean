/-
  areInputs and RunDevice of the program.
-/
import Derived.Test.YtfhhnelffldggaaGreatDoorTqAC
import Derived.Test.YtfhhnelffldggaaGreatDoorTqBM
import Derived.Test.YtfhhnelffldggaaGreatDoorTqBO
import Derived.Test.YtfhhnelffldggaaGreatDoorTqAI
import Derived.Test.YtfhhnelffldggaaGreatDoorTqAW
import Derived.Test.YtfhhnelffldggaaGreatDoorTqAT
import Derived.Test.YtfhhnelffldggaaGreatDoorTqBK
import Derived.Deep.DeepCutAuto
import Derived.Test.YtfhhnelffldggaaGreatDoorTqAY
import Derived.Test.YtfhhnelffldggaaGreatDoorTqAR
set_option maxRecDepth 100000
set_option maxHeartbeats 16000000
namespace Go.Proofs.YtfhhnelffldggaaGreatDoor
open Go.RowKit Go.PlainAid
set_option linter.unusedVariables false
set_option linter.unusedSimpArgs false
theorem inOk_of {x : Inp} (h : x.ok) : inOkB x.t3 = true := decide_eq_true ⟨h.2.2.1, h.2.2.2.1, h.2.2.2.2⟩
theorem allin_of {xs : List Inp} (h : ∀ x ∈ xs, x.ok) : (xs.map Inp.t3).all inOkB = true := by
  rw [List.all_eq_true]
  intro y hy
  obtain ⟨x, hx, rfl⟩ := List.mem_map.1 hy
  exact inOk_of (h x hx)
theorem areIn (a : Option Addr) (l : List In3) (n cap : Nat) (B : Bool) (hB : l.all inOkB = B) (hl : l.length = n) (hn : n ≤ 1048576) (w : World) (hr : RdZ w a l) :
    Calls Tryz.prog 29 #[.slice a n cap] w fun e w' => e = .returned (.bool B) ∧ Below w.heap.size w w' := by
  have HL : Hid (l.length = n) := hl
  have HB : Hid (l.all inOkB = B) := hB
  have HR : Hid (RdZ w a l) := hr
  clear hl hB hr
  go_enter Tryz.func29, Tryz.ntmps29
  go_wp2_with fail
  go_loopg [7] n (fun gk i wr => ∃ (j : Nat), j + gk = n ∧ i = .int .i64 j ∧ Hid ((l.take j).all inOkB = true) ∧ Hid (Below w.heap.size w wr))
  case atStart => exact ⟨0, by omega, rfl, rfl, Below.refl _ _⟩
  case round =>
    obtain ⟨j, hj, rfl, HA, HBw⟩ := hrel
    by_cases hlt : j < n
    · have hjl : j < l.length := by rw [HL.out]; exact hlt
      obtain ⟨gz, off, rfl, hc⟩ := HR.out.keep HBw.out (Nat.le_refl _) (by omega)
      have c3 := hc j hjl
      obtain ⟨⟨xb, xK, xL⟩, he⟩ : ∃ y, l[j] = y := ⟨_, rfl⟩
      rw [he] at c3
      dsimp only at c3
      obtain ⟨B1, hB1⟩ : ∃ B1, inOkB (xb, xK, xL) = B1 := ⟨_, rfl⟩
      have HB1 : Hid (decide ((0 ≤ xb ∧ xb ≤ 15) ∧ xK.size ≤ 20 ∧ xL.size ≤ 40) = B1) := hB1
      have HE : Hid (l[j] = (xb, xK, xL)) := he
      have j0 : (0 : Int) ≤ j := by omega
      have j1 : (j : Int) < n := by omega
      have qj : IntKind.i64.wrap ((j : Int) + 1) = (j : Int) + 1 := wrap_in (by omega) (by omega)
      have HB2 : Hid (Below w.heap.size w (wr.alloc (.cells #[.int .i64 xb, .string xK, .string xL] 46))) := bel_on (Nat.le_refl _) HBw.out (alM _ _)
      have i4 := box3i_cells (heap_new wr (.cells #[.int .i64 xb, .string xK, .string xL] 46))
      clear hc he hB1
      go_wp2_with fail
      refine (inokI xb xK xL B1 HB1.out _).mono ?_
      rintro e w2 ⟨rfl, hbc⟩
      have HB3 := bq HB2 hbc
      clear hbc HB2 c3 i4
      cases B1
      · obtain rfl : false = B := by
          rw [← HB.out]
          cases h : l.all inOkB
          · rfl
          · exact absurd (List.all_eq_true.1 h _ (List.getElem_mem hjl)) (by rw [HE.out]; show ¬ (inOkB _ = true); rw [show inOkB (xb, xK, xL) = false from HB1.out]; decide)
        go_wp2
        go_ret
        exact ⟨rfl, HB3.out⟩
      · have HA2 : Hid ((l.take (j + 1)).all inOkB = true) := by
          show _ = _
          rw [← List.take_append_getElem hjl, List.all_append, HA.out, HE.out]
          show (true && (inOkB (xb, xK, xL) && true)) = true
          rw [show inOkB (xb, xK, xL) = true from HB1.out]
          rfl
        go_wp2
        go_roundg (gk - 1)
        case measure => omega
        case rel => exact ⟨j + 1, by omega, by go_num, HA2, HB3⟩
    · obtain rfl : true = B := by
        have h := HA.out
        rw [List.take_of_length_le (by rw [HL.out]; omega), HB.out] at h
        exact h.symm
      have hne : ¬ ((j : Int) < n) := by omega
      go_wp2
      go_ret
      exact ⟨rfl, HBw.out⟩
theorem devNewI (w : World) : Calls Tryz.prog 14 #[] w fun e w' => e = .returned (.agg #[.int .i64 newP.s, .int .i64 newP.n, .int .i64 newP.d, .int .i64 newP.r, .int .i64 newP.l, .int .i64 newP.b, .int .i64 newP.g, .int .i64 newP.k, .slice none 0 0, .int .i64 0, .int .i64 newM.a, .bool newM.b, .int .i64 newM.n, .int .i64 newM.d, .string ⟨newM.s.toArray⟩, .slice none 0 0, .int .i64 0]) ∧ Below w.heap.size w w' := dnewI w
theorem runI (xs : List Inp) (hok : ∀ x ∈ xs, x.ok) (a : Option Addr) (n cap : Nat) (hl : xs.length = n) (hn : n ≤ 150) (p2 : Pm) (l2 : List Int) (al2 : Int) (m2 : Mn) (t2 : List Tk3) (rf2 : Int) (hD : runD newD (xs.map (·.i)) = ⟨p2, l2, al2, m2, t2, rf2⟩) (w : World) (ht : Q.Tab w) (hr : RdZ w a (xs.map Inp.t3)) :
    Calls Tryz.prog 8 #[.slice a n cap] w fun e w' => ∃ g nn c gt tn ct, e = .returned (.tuple #[.agg #[.int .i64 p2.s, .int .i64 p2.n, .int .i64 p2.d, .int .i64 p2.r, .int .i64 p2.l, .int .i64 p2.b, .int .i64 p2.g, .int .i64 p2.k, .slice (some ⟨g, 0, none⟩) nn c, .int .i64 al2, .int .i64 m2.a, .bool m2.b, .int .i64 m2.n, .int .i64 m2.d, .string ⟨m2.s.toArray⟩, .slice (some ⟨gt, 0, none⟩) tn ct, .int .i64 rf2], .bool true]) ∧ G.OwnN w' w.heap.size g nn c l2 ∧ OwnU w' w.heap.size gt tn ct t2 ∧ Below w.heap.size w w' := by
  have HOK : Hid (∀ x ∈ xs, x.ok) := hok
  have HL : Hid (xs.length = n) := hl
  have HD : Hid (runD newD (xs.map (·.i)) = ⟨p2, l2, al2, m2, t2, rf2⟩) := hD
  have HT : Hid (Q.Tab w) := ht
  have HR : Hid (RdZ w a (xs.map Inp.t3)) := hr
  obtain ⟨W0, hW0⟩ : ∃ W0, (w.alloc (dZ)) = W0 := ⟨_, rfl⟩
  have HZ0 : Hid (W0.heap[w.heap.size]? = some (dZ)) := by rw [← hW0]; exact heap_new w _
  have HB0 : Hid (Below w.heap.size w W0) := by rw [← hW0]; exact alM _ _
  have hs0 : W0.heap.size = w.heap.size + 1 := by rw [← hW0]; simp
  have HS0 : Hid (W0.heap.size = w.heap.size + 1) := hs0
  have hnn : ¬ ((150 : Int) < n) := by omega
  clear hok hl hD ht hr
  go_enter Tryz.func8, Tryz.ntmps8
  go_upto_region 1 with fail
  (try rw [hW0])
  clear hW0
  go_wp2_with fail
  refine (areIn a (xs.map Inp.t3) n cap true (allin_of HOK.out) (by rw [List.length_map]; exact HL.out) (by omega) _ (HR.out.keep HB0.out (Nat.le_refl _))).mono ?_
  rintro e w1 ⟨rfl, hbc⟩
  have HB1 : Hid (Below (w.heap.size + 1) W0 w1) := by rw [← hs0]; exact hbc
  clear hbc
  go_wp2_with fail
  refine (devNewI _).mono ?_
  rintro e w2 ⟨rfl, hbc⟩
  have HB2 : Hid (Below (w.heap.size + 1) W0 w2) := bel_on (by omega) HB1.out hbc
  clear hbc HB1
  go_wp2_with fail
  refine (devofI newP none 0 0 [] 0 newM none 0 0 [] 0 rfl (by omega) rfl (by omega) (by decide) _ (fun h => by simp at h) (fun h => by simp at h)).mono ?_
  rintro e w3 ⟨k, g1, g3, rfl, hX, hk, hG, hU, hbc⟩
  have hs2 : w.heap.size + 1 ≤ w2.heap.size := by have := HB2.out.size; omega
  have HI : Hid (∃ (p : Pm) (l : List Int) (al : Int) (m : Mn) (t : List Tk3) (rf : Int) (g nn c gt tn ct : Nat), Hid (runD newD ((xs.take 0).map (·.i)) = ⟨p, l, al, m, t, rf⟩) ∧ Hid (w3.heap[k]? = some (.cells (dR p (.slice (some ⟨g, 0, none⟩) nn c) al m (.slice (some ⟨gt, 0, none⟩) tn ct) rf) 112)) ∧ Hid (G.OwnN w3 (w.heap.size + 1) g nn c l) ∧ Hid (OwnU w3 (w.heap.size + 1) gt tn ct t) ∧ Hid (Below (w.heap.size + 1) W0 w3)) := ⟨newP, [], 0, newM, [], 0, g1, 0, 0, g3, 0, 0, rfl, hX, hG.mono hs2, hU.mono hs2, bel_on (by omega) HB2.out hbc⟩
  have hkw : w.heap.size + 1 ≤ k := by omega
  clear hX hG hU hbc hk HB2 hs2
  go_wp2_with fail
  go_loopg [20] n (fun gk i wr => ∃ (j : Nat), j + gk = n ∧ i = .int .i64 j ∧ Hid (∃ (p : Pm) (l : List Int) (al : Int) (m : Mn) (t : List Tk3) (rf : Int) (g nn c gt tn ct : Nat), Hid (runD newD ((xs.take j).map (·.i)) = ⟨p, l, al, m, t, rf⟩) ∧ Hid (wr.heap[k]? = some (.cells (dR p (.slice (some ⟨g, 0, none⟩) nn c) al m (.slice (some ⟨gt, 0, none⟩) tn ct) rf) 112)) ∧ Hid (G.OwnN wr (w.heap.size + 1) g nn c l) ∧ Hid (OwnU wr (w.heap.size + 1) gt tn ct t) ∧ Hid (Below (w.heap.size + 1) W0 wr)))
  case atStart => exact ⟨0, by omega, rfl, HI⟩
  case round =>
    clear HI
    obtain ⟨j, hj, rfl, HI⟩ := hrel
    obtain ⟨p, l, al, m, t, rf, g, nn, c, gt, tn, ct, HRN, HX, HG, HU, HB⟩ := HI
    have HBw : Hid (Below w.heap.size w wr) := HB0.out.trans (HB.out.mono (Nat.le_succ _))
    by_cases hlt : j < n
    · have hjl : j < xs.length := by rw [HL.out]; exact hlt
      obtain ⟨gz, off, rfl, hc⟩ := HR.out.keep HBw.out (Nat.le_refl _) (by rw [List.length_map, HL.out]; omega)
      have c3 := hc j (by rw [List.length_map]; exact hjl)
      obtain ⟨x, hx⟩ : ∃ x, xs[j] = x := ⟨_, rfl⟩
      rw [List.getElem_map, hx] at c3
      unfold Inp.t3 at c3
      dsimp only at c3
      have HXO : Hid x.ok := by have h := HOK.out _ (List.getElem_mem hjl); rw [hx] at h; exact h
      have hrok := run_okD ((xs.take j).map (·.i)) newD_ok (fun i hi => by
        obtain ⟨y, hy, rfl⟩ := List.mem_map.1 hi
        exact (HOK.out y (List.mem_of_mem_take hy)).ic)
      rw [HRN.out] at hrok
      obtain ⟨h1, h2, h3⟩ := hrok
      have HDO : Hid (Dv.ok ⟨p, l, al, m, t, rf⟩) := h1
      have htn : tn ≤ 100000 := by
        have h4 := HU.out.len
        rw [List.length_map, List.length_take] at h2
        dsimp only [newD] at h2
        have : ([] : List Tk3).length = 0 := rfl
        omega
      have hrf : rf ≤ 900000000 := by
        rw [List.length_map, List.length_take] at h3
        dsimp only [newD] at h3
        omega
      obtain ⟨⟨p3, l3, al3, m3, t3, rf3⟩, hT⟩ : ∃ y, tickD ⟨p, l, al, m, t, rf⟩ x.i = y := ⟨_, rfl⟩
      have HT3 : Hid (tickD ⟨p, l, al, m, t, rf⟩ x.i = ⟨p3, l3, al3, m3, t3, rf3⟩) := hT
      have HRN2 : Hid (runD newD ((xs.take (j + 1)).map (·.i)) = ⟨p3, l3, al3, m3, t3, rf3⟩) := by
        show _ = _
        rw [← List.take_append_getElem hjl, List.map_append, runD_app, HRN.out, hx]
        exact hT
      have j0 : (0 : Int) ≤ j := by omega
      have j1 : (j : Int) < n := by omega
      have qj : IntKind.i64.wrap ((j : Int) + 1) = (j : Int) + 1 := wrap_in (by omega) (by omega)
      clear h1 h2 h3 hc hT HRN hx
      obtain ⟨⟨xi, xK, xL⟩, hxx⟩ : ∃ y, x = y := ⟨_, rfl⟩
      subst hxx
      dsimp only at c3
      have i4 := box3i_cells (heap_new wr (.cells #[.int .i64 xi.b, .string xK, .string xL] 46))
      have HX2 : Hid ((wr.alloc (.cells #[.int .i64 xi.b, .string xK, .string xL] 46)).heap[k]? = some (.cells (dR p (.slice (some ⟨g, 0, none⟩) nn c) al m (.slice (some ⟨gt, 0, none⟩) tn ct) rf) 112)) := row_on HX.out (alM _ _)
      have HG2 : Hid (G.OwnN (wr.alloc (.cells #[.int .i64 xi.b, .string xK, .string xL] 46)) (w.heap.size + 1) g nn c l) := HG.out.on (alM _ _)
      have HU2 : Hid (OwnU (wr.alloc (.cells #[.int .i64 xi.b, .string xK, .string xL] 46)) (w.heap.size + 1) gt tn ct t) := HU.out.on (alM _ _)
      have HB2 : Hid (Below (w.heap.size + 1) W0 (wr.alloc (.cells #[.int .i64 xi.b, .string xK, .string xL] 46))) := bel_on (by omega) HB.out (alM _ _)
      have HTb : Hid (Q.Tab (wr.alloc (.cells #[.int .i64 xi.b, .string xK, .string xL] 46))) := Q.tab_below HT.out (bel_on (Nat.le_refl _) HBw.out (alM _ _))
      clear HX HG HU HB HBw
      go_wp2_with fail
      refine (tickI k (w.heap.size + 1) p l al m t rf g nn c gt tn ct ⟨xi, xK, xL⟩ HXO.out HDO.out htn hrf hkw p3 l3 al3 m3 t3 rf3 HT3.out _ HTb.out HX2.out HG2.out HU2.out).mono ?_
      rintro e w5 ⟨rfl, g5, n5, c5, gt5, tn5, ct5, hX, hG, hU, hbc⟩
      have HI : Hid (∃ (p : Pm) (l : List Int) (al : Int) (m : Mn) (t : List Tk3) (rf : Int) (g nn c gt tn ct : Nat), Hid (runD newD ((xs.take (j + 1)).map (·.i)) = ⟨p, l, al, m, t, rf⟩) ∧ Hid (w5.heap[k]? = some (.cells (dR p (.slice (some ⟨g, 0, none⟩) nn c) al m (.slice (some ⟨gt, 0, none⟩) tn ct) rf) 112)) ∧ Hid (G.OwnN w5 (w.heap.size + 1) g nn c l) ∧ Hid (OwnU w5 (w.heap.size + 1) gt tn ct t) ∧ Hid (Below (w.heap.size + 1) W0 w5)) := ⟨p3, l3, al3, m3, t3, rf3, g5, n5, c5, gt5, tn5, ct5, HRN2, hX, hG, hU, HB2.out.trans hbc⟩
      clear hX hG hU hbc HX2 HG2 HU2 HB2 HTb c3 i4 HT3 HRN2
      go_wp2
      go_roundg (gk - 1)
      case measure => omega
      case rel => exact ⟨j + 1, by omega, by go_num, HI⟩
    · have hRF := HRN.out
      rw [List.take_of_length_le (by rw [HL.out]; omega), HD.out] at hRF
      obtain ⟨rfl, rfl, rfl, rfl, rfl, rfl⟩ : p = p2 ∧ l = l2 ∧ al = al2 ∧ m = m2 ∧ t = t2 ∧ rf = rf2 := by cases hRF; exact ⟨rfl, rfl, rfl, rfl, rfl, rfl⟩
      have hne : ¬ ((j : Int) < n) := by omega
      clear hRF HRN HD
      go_wp2_with fail
      refine (toldI k p g nn c al m gt tn ct rf _ HX.out).mono ?_
      rintro e w6 ⟨rfl, hbc⟩
      have hsw : w.heap.size < wr.heap.size := by have := HB.out.size; omega
      have HZ6 : Hid (w6.heap[w.heap.size]? = some (dZ)) := ((hbc.block _ hsw).trans (HB.out.block _ (Nat.lt_succ_self _))).trans HZ0.out
      have HG6 : Hid (G.OwnN w6 w.heap.size g nn c l) := (HG.out.on hbc).mono (Nat.le_succ _)
      have HU6 : Hid (OwnU w6 w.heap.size gt tn ct t) := (HU.out.on hbc).mono (Nat.le_succ _)
      have HB6 := bq HBw hbc
      clear hbc HX HG HU HB HBw
      go_wp2_with (refine listStoreD rfl rfl _ _ _ rfl rfl w.heap.size (dR p (.slice (some ⟨g, 0, none⟩) nn c) al m (.slice (some ⟨gt, 0, none⟩) tn ct) rf) rfl rfl rfl (by kernel_rfl) HZ6.out rfl ?_)
      intro w7 hput
      have HZ7 : Hid (w7.heap[w.heap.size]? = some (dO p (.slice (some ⟨g, 0, none⟩) nn c) al m (.slice (some ⟨gt, 0, none⟩) tn ct) rf)) := hput.1
      have HG7 : Hid (G.OwnN w7 w.heap.size g nn c l) := own_putM HG6.out hput (own_ne HG6.out HZ6.out (by decide))
      have HU7 : Hid (OwnU w7 w.heap.size gt tn ct t) := own_putM HU6.out hput (own_ne HU6.out HZ6.out (by decide))
      have HB7 : Hid (Below w.heap.size w w7) := hput.2.2.2 _ _ (Nat.le_refl _) HB6.out
      clear hput HZ6 HG6 HU6 HB6
      go_wp2
      refine bodyPost_ret (v := .tuple #[.agg #[.int .i64 p.s, .int .i64 p.n, .int .i64 p.d, .int .i64 p.r, .int .i64 p.l, .int .i64 p.b, .int .i64 p.g, .int .i64 p.k, .slice (some ⟨g, 0, none⟩) nn c, .int .i64 al, .int .i64 m.a, .bool m.b, .int .i64 m.n, .int .i64 m.d, .string ⟨m.s.toArray⟩, .slice (some ⟨gt, 0, none⟩) tn ct, .int .i64 rf], .bool true]) (results2_row Tryz.results8 _ _ w.heap.size _ _ _ (.bool true) rfl rfl HZ7.out (by kernel_rfl) (by kernel_rfl)) rfl ⟨g, nn, c, gt, tn, ct, rfl, HG7.out, HU7.out, HB7.out⟩
theorem mayIR (p : Pm) (a : Option Addr) (n cap : Nat) (l : List Int) (al : Int) (m : Mn) (ta : Option Addr) (tn tc : Nat) (t : List Tk3) (rf : Int) (hl : l.length = n) (ht : t.length = tn) (hD : Dv.ok ⟨p, l, al, m, t, rf⟩) (htn : tn < 200) (hrf : rf ≤ 999999900) (w : World) (hr : G.Rd w a l) :
    Calls Tryz.prog 48 #[.agg #[.int .i64 p.s, .int .i64 p.n, .int .i64 p.d, .int .i64 p.r, .int .i64 p.l, .int .i64 p.b, .int .i64 p.g, .int .i64 p.k, .slice a n cap, .int .i64 al, .int .i64 m.a, .bool m.b, .int .i64 m.n, .int .i64 m.d, .string ⟨m.s.toArray⟩, .slice ta tn tc, .int .i64 rf]] w fun e w' => e = .returned (.bool true) ∧ Below w.heap.size w w' := by
  have HL : Hid (l.length = n) := hl
  have HOK : Hid (Dv.ok ⟨p, l, al, m, t, rf⟩) := hD
  have HR : Hid (G.Rd w a l) := hr
  have hn9 : n ≤ 9 := by have h := hD.g.1; dsimp only at h; omega
  have hr0 : 0 ≤ rf := hD.r
  obtain ⟨W0, hW0⟩ : ∃ W0, (w.alloc (dO p (.slice a n cap) al m (.slice ta tn tc) rf)) = W0 := ⟨_, rfl⟩
  have HX0 : Hid (W0.heap[w.heap.size]? = some (dO p (.slice a n cap) al m (.slice ta tn tc) rf)) := by rw [← hW0]; exact heap_new w _
  have HB0 : Hid (Below w.heap.size w W0) := by rw [← hW0]; exact alM _ _
  have h2 : (tn : Int) < 200 := by omega
  clear hl ht hD hr
  go_enter Tryz.func48, Tryz.ntmps48
  go_upto_region 1 with fail
  (try rw [hW0])
  clear hW0
  go_wp2_with (refine wpList_load_row rfl _ _ rfl w.heap.size rfl _ _ _ _ HX0.out Tryz.underlying37 rfl (by kernel_rfl) ?_)
  go_wp2_with fail
  refine (deviceokIR p a n cap l al m ta tn tc rf HOK.out.p HOK.out.g HOK.out.m.1 (by omega) ⟨hr0, by omega⟩ HL.out (by omega) _ (HR.out.keep HB0.out (Nat.le_refl _))).mono ?_
  rintro e w1 ⟨rfl, hbc⟩
  have HX1 : Hid (w1.heap[w.heap.size]? = some (dO p (.slice a n cap) al m (.slice ta tn tc) rf)) := row_on HX0.out hbc
  have HB1 := bq HB0 hbc
  have c1 := box17_cells HX1.out
  clear hbc HX0 HB0
  go_wp2
  go_ret
  exact ⟨rfl, HB1.out⟩
theorem tkdIR (p : Pm) (a : Option Addr) (n cap : Nat) (l : List Int) (al : Int) (m : Mn) (ta : Option Addr) (tn tc : Nat) (t : List Tk3) (rf : Int) (x : Inp) (hx : x.ok) (hD : Dv.ok ⟨p, l, al, m, t, rf⟩) (hl : l.length = n) (ht : t.length = tn) (htn : tn < 200) (hrf : rf ≤ 900000000) (hms : m.s.length ≤ 1048576) (p2 : Pm) (l2 : List Int) (al2 : Int) (m2 : Mn) (t2 : List Tk3) (rf2 : Int) (hT : tickD ⟨p, l, al, m, t, rf⟩ x.i = ⟨p2, l2, al2, m2, t2, rf2⟩) (w : World) (htab : Q.Tab w) (hr : G.Rd w a l) (hrt : RdY w ta t) :
    Calls Tryz.prog 16 #[.agg #[.int .i64 p.s, .int .i64 p.n, .int .i64 p.d, .int .i64 p.r, .int .i64 p.l, .int .i64 p.b, .int .i64 p.g, .int .i64 p.k, .slice a n cap, .int .i64 al, .int .i64 m.a, .bool m.b, .int .i64 m.n, .int .i64 m.d, .string ⟨m.s.toArray⟩, .slice ta tn tc, .int .i64 rf], .agg #[.int .i64 x.i.b, .string x.K, .string x.L]] w fun e w' => ∃ g2 n2 c2 gt2 tn2 ct2, e = .returned (.agg #[.int .i64 p2.s, .int .i64 p2.n, .int .i64 p2.d, .int .i64 p2.r, .int .i64 p2.l, .int .i64 p2.b, .int .i64 p2.g, .int .i64 p2.k, .slice (some ⟨g2, 0, none⟩) n2 c2, .int .i64 al2, .int .i64 m2.a, .bool m2.b, .int .i64 m2.n, .int .i64 m2.d, .string ⟨m2.s.toArray⟩, .slice (some ⟨gt2, 0, none⟩) tn2 ct2, .int .i64 rf2]) ∧ G.OwnN w' w.heap.size g2 n2 c2 l2 ∧ OwnU w' w.heap.size gt2 tn2 ct2 t2 ∧ Below w.heap.size w w' := by
  have HL : Hid (l.length = n) := hl
  have HTL : Hid (t.length = tn) := ht
  have HOK : Hid (Dv.ok ⟨p, l, al, m, t, rf⟩) := hD
  have HXO : Hid x.ok := hx
  have HTK : Hid (tickD ⟨p, l, al, m, t, rf⟩ x.i = ⟨p2, l2, al2, m2, t2, rf2⟩) := hT
  have HTB : Hid (Q.Tab w) := htab
  have HR : Hid (G.Rd w a l) := hr
  have HRT : Hid (RdY w ta t) := hrt
  have hn9 : n ≤ 9 := by have h := hD.g.1; dsimp only at h; omega
  have HIN : Hid (decide ((0 ≤ x.i.b ∧ x.i.b ≤ 15) ∧ x.K.size ≤ 20 ∧ x.L.size ≤ 40) = true) := decide_eq_true ⟨hx.2.2.1, hx.2.2.2.1, hx.2.2.2.2⟩
  obtain ⟨W1, hW1⟩ : ∃ W1, (w.alloc (dO p (.slice a n cap) al m (.slice ta tn tc) rf)) = W1 := ⟨_, rfl⟩
  obtain ⟨W2, hW2⟩ : ∃ W2, (W1.alloc (.cells #[.int .i64 x.i.b, .string x.K, .string x.L] 46)) = W2 := ⟨_, rfl⟩
  obtain ⟨W3, hW3⟩ : ∃ W3, (W2.alloc (dZ)) = W3 := ⟨_, rfl⟩
  have s1 : W1.heap.size = w.heap.size + 1 := by rw [← hW1]; simp
  have s2 : W2.heap.size = w.heap.size + 1 + 1 := by rw [← hW2]; simp [s1]
  have s3 : W3.heap.size = w.heap.size + 3 := by rw [← hW3]; simp [s2]
  have HX0 : Hid (W3.heap[w.heap.size]? = some (dO p (.slice a n cap) al m (.slice ta tn tc) rf)) := by rw [← hW3, ← hW2, ← hW1]; exact row_on (row_on (heap_new w _) (alM _ _)) (alM _ _)
  have HI0 : Hid (W3.heap[w.heap.size + 1]? = some (.cells #[.int .i64 x.i.b, .string x.K, .string x.L] 46)) := by rw [← hW3, ← s1, ← hW2]; exact row_on (heap_new W1 _) (alM _ _)
  have HZ0 : Hid (W3.heap[w.heap.size + 1 + 1]? = some (dZ)) := by rw [← hW3, ← s2]; exact heap_new W2 _
  have HB0 : Hid (Below w.heap.size w W3) := by rw [← hW3, ← hW2, ← hW1]; exact bel_on (Nat.le_refl _) (bel_on (Nat.le_refl _) (alM _ _) (alM _ _)) (alM _ _)
  have HS3 : Hid (W3.heap.size = w.heap.size + 3) := s3
  clear hx hT hl ht hD hr hrt htab s3
  go_enter Tryz.func16, Tryz.ntmps16
  go_upto_region 1 with fail
  (try rw [hW1])
  (try rw [hW2])
  (try rw [hW3])
  (try rw [s2])
  clear s1 s2 hW1 hW2 hW3
  go_wp2_with (refine wpList_load_row rfl _ _ rfl w.heap.size rfl _ _ _ _ HX0.out Tryz.underlying37 rfl (by kernel_rfl) ?_)
  go_wp2_with fail
  refine (devofI p a n cap l al m ta tn tc t rf HL.out (by omega) HTL.out (by omega) hms _ (HR.out.keep HB0.out (Nat.le_refl _)) (HRT.out.keep HB0.out (Nat.le_refl _))).mono ?_
  rintro e w4 ⟨k, g1, g3, rfl, hX, hk, hG, hU, hbc⟩
  have hk3 : w.heap.size + 3 ≤ k := by have := HS3.out; omega
  have HD4 : Hid (w4.heap[k]? = some (.cells (dR p (.slice (some ⟨g1, 0, none⟩) n n) al m (.slice (some ⟨g3, 0, none⟩) tn tn) rf) 112)) := hX
  have HG4 : Hid (G.OwnN w4 (w.heap.size + 3) g1 n n l) := hG.mono (Nat.le_of_eq HS3.out.symm)
  have HU4 : Hid (OwnU w4 (w.heap.size + 3) g3 tn tn t) := hU.mono (Nat.le_of_eq HS3.out.symm)
  have HX4 : Hid (w4.heap[w.heap.size]? = some (dO p (.slice a n cap) al m (.slice ta tn tc) rf)) := row_on HX0.out hbc
  have HI4 : Hid (w4.heap[w.heap.size + 1]? = some (.cells #[.int .i64 x.i.b, .string x.K, .string x.L] 46)) := row_on HI0.out hbc
  have HZ4 : Hid (w4.heap[w.heap.size + 1 + 1]? = some (dZ)) := row_on HZ0.out hbc
  have HB4 := bq HB0 hbc
  have i4 := box3i_cells HI4.out
  clear hX hk hG hU hbc HX0 HI0 HZ0 HB0
  go_wp2_with (refine wpList_load_row rfl _ _ rfl w.heap.size rfl _ _ _ _ HX4.out Tryz.underlying37 rfl (by kernel_rfl) ?_)
  go_wp2_with fail
  refine (mayIR p a n cap l al m ta tn tc t rf HL.out HTL.out HOK.out htn (by omega) _ (HR.out.keep HB4.out (Nat.le_refl _))).mono ?_
  rintro e w5 ⟨rfl, hbc⟩
  have HD5 : Hid (w5.heap[k]? = some (.cells (dR p (.slice (some ⟨g1, 0, none⟩) n n) al m (.slice (some ⟨g3, 0, none⟩) tn tn) rf) 112)) := row_on HD4.out hbc
  have HG5 : Hid (G.OwnN w5 (w.heap.size + 3) g1 n n l) := HG4.out.on hbc
  have HU5 : Hid (OwnU w5 (w.heap.size + 3) g3 tn tn t) := HU4.out.on hbc
  have HI5 : Hid (w5.heap[w.heap.size + 1]? = some (.cells #[.int .i64 x.i.b, .string x.K, .string x.L] 46)) := row_on HI4.out hbc
  have HZ5 : Hid (w5.heap[w.heap.size + 1 + 1]? = some (dZ)) := row_on HZ4.out hbc
  have HB5 := bq HB4 hbc
  have i5 := box3i_cells HI5.out
  clear hbc HD4 HG4 HU4 HX4 HI4 HZ4 HB4 i4
  go_wp2_with fail
  refine (inokI x.i.b x.K x.L true HIN.out _).mono ?_
  rintro e w6 ⟨rfl, hbc⟩
  have HD6 : Hid (w6.heap[k]? = some (.cells (dR p (.slice (some ⟨g1, 0, none⟩) n n) al m (.slice (some ⟨g3, 0, none⟩) tn tn) rf) 112)) := row_on HD5.out hbc
  have HG6 : Hid (G.OwnN w6 (w.heap.size + 3) g1 n n l) := HG5.out.on hbc
  have HU6 : Hid (OwnU w6 (w.heap.size + 3) g3 tn tn t) := HU5.out.on hbc
  have HI6 : Hid (w6.heap[w.heap.size + 1]? = some (.cells #[.int .i64 x.i.b, .string x.K, .string x.L] 46)) := row_on HI5.out hbc
  have HZ6 : Hid (w6.heap[w.heap.size + 1 + 1]? = some (dZ)) := row_on HZ5.out hbc
  have HB6 := bq HB5 hbc
  have i6 := box3i_cells HI6.out
  clear hbc HD5 HG5 HU5 HI5 HZ5 HB5 i5
  go_wp2_with fail
  refine (tickI k (w.heap.size + 3) p l al m t rf g1 n n g3 tn tn x HXO.out HOK.out (by omega) hrf hk3 p2 l2 al2 m2 t2 rf2 HTK.out _ (Q.tab_below HTB.out HB6.out) HD6.out HG6.out HU6.out).mono ?_
  rintro e w7 ⟨rfl, g2, n2, c2, gt2, tn2, ct2, hX, hG, hU, hbc⟩
  have HD7 : Hid (w7.heap[k]? = some (.cells (dR p2 (.slice (some ⟨g2, 0, none⟩) n2 c2) al2 m2 (.slice (some ⟨gt2, 0, none⟩) tn2 ct2) rf2) 112)) := hX
  have HG7 : Hid (G.OwnN w7 (w.heap.size + 3) g2 n2 c2 l2) := hG
  have HU7 : Hid (OwnU w7 (w.heap.size + 3) gt2 tn2 ct2 t2) := hU
  have HZ7 : Hid (w7.heap[w.heap.size + 1 + 1]? = some (dZ)) := (hbc.block _ (by omega)).trans HZ6.out
  have HB7 : Hid (Below w.heap.size w w7) := HB6.out.trans (hbc.mono (by omega))
  clear hX hG hU hbc HD6 HG6 HU6 HI6 HZ6 HB6 i6
  go_wp2_with fail
  refine (toldI k p2 g2 n2 c2 al2 m2 gt2 tn2 ct2 rf2 _ HD7.out).mono ?_
  rintro e w8 ⟨rfl, hbc⟩
  have HG8 : Hid (G.OwnN w8 (w.heap.size + 3) g2 n2 c2 l2) := HG7.out.on hbc
  have HU8 : Hid (OwnU w8 (w.heap.size + 3) gt2 tn2 ct2 t2) := HU7.out.on hbc
  have HZ8 : Hid (w8.heap[w.heap.size + 1 + 1]? = some (dZ)) := row_on HZ7.out hbc
  have HB8 := bq HB7 hbc
  clear hbc HD7 HG7 HU7 HZ7 HB7
  go_wp2_with (refine listStoreD rfl rfl _ _ _ rfl rfl (w.heap.size + 1 + 1) (dR p2 (.slice (some ⟨g2, 0, none⟩) n2 c2) al2 m2 (.slice (some ⟨gt2, 0, none⟩) tn2 ct2) rf2) rfl rfl rfl (by kernel_rfl) HZ8.out rfl ?_)
  intro w9 hput
  have HZ9 : Hid (w9.heap[w.heap.size + 1 + 1]? = some (dO p2 (.slice (some ⟨g2, 0, none⟩) n2 c2) al2 m2 (.slice (some ⟨gt2, 0, none⟩) tn2 ct2) rf2)) := hput.1
  have HG9 : Hid (G.OwnN w9 w.heap.size g2 n2 c2 l2) := own_mono (own_putM HG8.out hput (own_ne HG8.out HZ8.out (by decide))) (by omega)
  have HU9 : Hid (OwnU w9 w.heap.size gt2 tn2 ct2 t2) := own_mono (own_putM HU8.out hput (own_ne HU8.out HZ8.out (by decide))) (by omega)
  have HB9 : Hid (Below w.heap.size w w9) := hput.2.2.2 _ _ (by omega) HB8.out
  clear hput HZ8 HG8 HU8 HB8
  go_wp2
  refine bodyPost_ret (v := .agg #[.int .i64 p2.s, .int .i64 p2.n, .int .i64 p2.d, .int .i64 p2.r, .int .i64 p2.l, .int .i64 p2.b, .int .i64 p2.g, .int .i64 p2.k, .slice (some ⟨g2, 0, none⟩) n2 c2, .int .i64 al2, .int .i64 m2.a, .bool m2.b, .int .i64 m2.n, .int .i64 m2.d, .string ⟨m2.s.toArray⟩, .slice (some ⟨gt2, 0, none⟩) tn2 ct2, .int .i64 rf2]) (results_cell_row Tryz.results16 _ _ (w.heap.size + 1 + 1) _ _ _ _ rfl HZ9.out Tryz.underlying37 rfl (by kernel_rfl)) rfl ⟨g2, n2, c2, gt2, tn2, ct2, rfl, HG9.out, HU9.out, HB9.out⟩
end Go.Proofs.YtfhhnelffldggaaGreatDoor
