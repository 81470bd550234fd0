/-
  RunDevice, of the specification, for right inputs.
-/
import Derived.Test.YtfhhnelffldggaaGreatDoorUqAC
import Derived.Test.YtfhhnelffldggaaGreatDoorUqBU
import Derived.Test.YtfhhnelffldggaaGreatDoorUqBM
import Derived.Test.YtfhhnelffldggaaGreatDoorUqAI
import Derived.Test.YtfhhnelffldggaaGreatDoorUqBE
import Derived.Test.YtfhhnelffldggaaGreatDoorUqBJ
import Derived.Test.YtfhhnelffldggaaGreatDoorUqAV
set_option maxRecDepth 100000
set_option maxHeartbeats 16000000
namespace Go.Proofs.YtfhhnelffldggaaGreatDoor
open Go.RowKit Go.PlainAid
set_option linter.unusedVariables false
set_option linter.unusedSimpArgs false
theorem aqRnS {p : Prop} (h : p) : Hid p := h
def SRn (g off j : Nat) (b : Int) (K L : ByteArray) (W : World) : Prop := W.cell? ⟨g, off + j * 3, none⟩ = some (.int .i64 b) ∧ W.cell? ⟨g, off + j * 3 + 1, none⟩ = some (.string K) ∧ W.cell? ⟨g, off + j * 3 + 2, none⟩ = some (.string L)
theorem SRn.on {g off j : Nat} {b : Int} {K L : ByteArray} {W W' : World} (h : SRn g off j b K L W) (hb : Below W.heap.size W W') : SRn g off j b K L W' := by
 have hg := World.block_lt_of_cell? W ⟨g, off + j * 3, none⟩ h.1
 exact ⟨(hb.cell (p := ⟨g, off + j * 3, none⟩) hg).trans h.1, (hb.cell (p := ⟨g, off + j * 3 + 1, none⟩) hg).trans h.2.1, (hb.cell (p := ⟨g, off + j * 3 + 2, none⟩) hg).trans h.2.2⟩
theorem SRn.same {g off j : Nat} {b : Int} {K L : ByteArray} {W W' : World} (h : SRn g off j b K L W) (hb : W'.heap[g]? = W.heap[g]?) : SRn g off j b K L W' := by
 unfold SRn World.cell? at *
 dsimp only at *
 rw [hb]
 exact h
theorem loadR_any {ops : Array Oper} {o : Oper} {a : Act} {K : Act → World → Prop} {Q : Exit → Act → World → Prop} {E : Prop} {w : World} (hw : Region.wanted o (yielded ops a.tmps) = true) (ty : TypeId) (x : Operand) (ho : o.op = .load ty x)
  (g : Nat) (hx : a.eval x = .pointer (some ⟨g, 0, none⟩)) (t : TypeId) (cs : Array Value) (fr : Nat × Nat) (d : TypeDesc) (hg : w.heap[g]? = some (.cells cs t fr))
  (hu : Tryz.prog.underlying ty = some d) (hd : (match d with | .struct _ | .array _ _ => true | _ => false) = true) (hi : (Tryz.prog.info? ty).map (·.size) = some cs.size)
  (h : K (a.put o.dst (.agg cs)) w) : if Region.wanted o (yielded ops a.tmps) = true then Oper.wp Tryz.prog o a w K Q else E := by
 rw [if_pos hw]
 exact wp_load_row ty x ho g hx t cs fr d hg hu (by cases d <;> first | rfl | (cases hd)) hi h
def RnR (xs : List Inp) (w : World) (X j : Nat) (W : World) : Prop := (∃ (D : Dv) (A : Option Addr) (nn c : Nat) (TA : Option Addr) (ct : Nat), Hid (atD (xs.map (·.i)) j = D) ∧ Hid (W.heap[X]? = some (dO D.p (.slice A nn c) D.al D.m (.slice TA j ct) D.rf)) ∧ Hid (G.Rd W A D.l ∧ RdY W TA D.t) ∧ Hid ((A = none → nn = 0 ∧ c = 0) ∧ (TA = none → j = 0 ∧ ct = 0) ∧ D.l.length = nn) ∧ Hid (0 < j → ∃ g gt, A = some ⟨g, 0, none⟩ ∧ TA = some ⟨gt, 0, none⟩ ∧ G.OwnN W (w.heap.size + 1) g nn c D.l ∧ OwnU W (w.heap.size + 1) gt j ct D.t) ∧ Hid (Below w.heap.size w W) ∧ Hid (W.heap[w.heap.size]? = some (dZ)))
theorem runS (xs : List Inp) (hok : ∀ x ∈ xs, x.ok) (a : Option Addr) (n cap : Nat) (hl : xs.length = n) (hn : n ≤ 150) (D2 : Dv) (hD : atD (xs.map (·.i)) n = D2) (w : World) (hr : RdZ w a (xs.map Inp.t3)) :
  Calls Tryz.prog 9 #[.slice a n cap] w fun e w' => ∃ A nn c TA ct, e = .returned (.tuple #[.agg #[.int .i64 D2.p.s, .int .i64 D2.p.n, .int .i64 D2.p.d, .int .i64 D2.p.r, .int .i64 D2.p.l, .int .i64 D2.p.b, .int .i64 D2.p.g, .int .i64 D2.p.k, .slice A nn c, .int .i64 D2.al, .int .i64 D2.m.a, .bool D2.m.b, .int .i64 D2.m.n, .int .i64 D2.m.d, .string ⟨D2.m.s.toArray⟩, .slice TA n ct, .int .i64 D2.rf], .bool true]) ∧ (0 < n → ∃ g gt, A = some ⟨g, 0, none⟩ ∧ TA = some ⟨gt, 0, none⟩ ∧ G.OwnN w' w.heap.size g nn c D2.l ∧ OwnU w' w.heap.size gt n ct D2.t) ∧ G.Rd w' A D2.l ∧ RdY w' TA D2.t ∧ D2.l.length = nn ∧ Below w.heap.size w w' := by
 have HOK := aqRnS hok
 have HL := aqRnS hl
 have HD := aqRnS hD
 have HR := aqRnS hr
 obtain ⟨W0, hW0⟩ : ∃ W0, (w.alloc (dZ)) = W0 := ⟨_, rfl⟩
 have HZ0 : Hid (W0.heap[w.heap.size]? = some (dZ)) := by rw [← hW0]; exact heap_new w _
 have HB0 : Hid (Below w.heap.size w W0) := by rw [← hW0]; exact alM _ _
 have hs0 : W0.heap.size = w.heap.size + 1 := by rw [← hW0]; simp
 have HS0 := aqRnS hs0
 have hnn : ((n : Int) ≤ 150) := by omega
 clear hok hl hD hr
 go_enter Tryz.func9, Tryz.ntmps9
 go_upto_region 1 with fail
 (try rw [hW0])
 clear hW0
 go_wp2_with fail
 go_loopg [4, 5] n (fun gk v4 v5 wr => ∃ (j : Nat), j + gk = n ∧ v4 = .bool true ∧ v5 = .int .i64 j ∧ Hid (Below (w.heap.size + 1) W0 wr))
 case atStart => exact ⟨0, by omega, (by first | rfl | (simp; omega) | (congr 1; exact decide_eq_true hnn)), rfl, by rw [← hs0]; exact Below.refl _ _⟩
 case round =>
  obtain ⟨j, hj, rfl, rfl, HB⟩ := hrel
  have HBw : Hid (Below w.heap.size w wr) := HB0.out.trans (HB.out.mono (Nat.le_succ _))
  by_cases hlt : j < n
  ·
   have hjl : j < xs.length := by rw [HL.out]; exact hlt
   obtain ⟨gz, off, rfl, hc⟩ := HR.out.keep HBw.out (Nat.le_refl _) (by rw [List.length_map, HL.out]; omega)
   have c3 := hc j (by rw [List.length_map]; exact hjl)
   obtain ⟨x, hx⟩ : ∃ x, xs[j] = x := ⟨_, rfl⟩
   rw [List.getElem_map, hx] at c3
   unfold Inp.t3 at c3
   dsimp only at c3
   have hxo : x.ok := by have h := HOK.out _ (List.getElem_mem hjl); rw [hx] at h; exact h
   have HIN : Hid (decide ((0 ≤ x.i.b ∧ x.i.b ≤ 15) ∧ x.K.size ≤ 20 ∧ x.L.size ≤ 40) = true) := decide_eq_true ⟨hxo.2.2.1, hxo.2.2.2.1, hxo.2.2.2.2⟩
   have j0 : (0 : Int) ≤ j := by omega
   have j1 : (j : Int) < n := by omega
   have qj : IntKind.i64.wrap ((j : Int) + 1) = (j : Int) + 1 := wrap_in (by omega) (by omega)
   clear hc hxo hx
   go_wp2_with fail
   refine (inokS x.i.b x.K x.L true HIN.out _).mono ?_
   rintro e w1 ⟨rfl, hbc⟩
   have HB1 : Hid (Below (w.heap.size + 1) W0 w1) := bel_on (by omega) HB.out hbc
   clear hbc HB HBw HIN c3
   go_wp2
   go_roundg (gk - 1)
   case measure => omega
   case rel => exact ⟨j + 1, by omega, rfl, by go_num, HB1⟩
  ·
   have hne : ¬ ((j : Int) < n) := by omega
   have HZw : Hid (wr.heap[w.heap.size]? = some (dZ)) := (HB.out.block _ (Nat.lt_succ_self _)).trans HZ0.out
   clear hj HB0 HB HZ0
   go_wp2_with fail
   refine (dnewS _).mono ?_
   rintro e w2 ⟨rfl, hbc⟩
   have HB2 := bq HBw hbc
   have HZ2 := rq HZw hbc
   have hsz : w.heap.size < w2.heap.size := row_lt HZ2.out
   clear hbc HBw HZw
   have HXv : Hid ((w2.alloc (dZ)).heap[w2.heap.size]? = some (dZ)) := heap_new w2 _
   go_wp2_with (refine listStoreD rfl rfl _ _ _ rfl rfl w2.heap.size #[.int .i64 0, .int .i64 0, .int .i64 1, .int .i64 0, .int .i64 0, .int .i64 0, .int .i64 0, .int .i64 0, .slice none 0 0, .int .i64 0, .int .i64 1, .bool false, .int .i64 0, .int .i64 0, .string ⟨#[]⟩, .slice none 0 0, .int .i64 0] rfl rfl rfl (by kernel_rfl) HXv.out rfl ?_)
   intro w3 hput
   have HX3 := aqRnS hput.1
   have HB3 : Hid (Below w.heap.size w w3) := hput.2.2.2 _ _ (by omega) (bel_on (Nat.le_refl _) HB2.out (alM _ _))
   have HZ3 : Hid (w3.heap[w.heap.size]? = some (dZ)) := hput.far (row_on HZ2.out (alM _ _)) (by omega)
   clear hput HXv HB2 HZ2
   generalize w2.heap.size = X at *
   have HI : Hid (RnR xs w X 0 w3) := ⟨newD, none, 0, 0, none, 0, atD_zero _, HX3.out, ⟨(fun h => by simp [newD] at h), (fun h => by simp [newD] at h)⟩, ⟨fun _ => ⟨rfl, rfl⟩, fun _ => ⟨rfl, rfl⟩, rfl⟩, (fun h => absurd h (Nat.lt_irrefl 0)), HB3.out, HZ3.out⟩
   clear HX3 HB3 HZ3
   go_wp2_with fail
   go_loopg [7] n (fun gk v7 wr => ∃ (j : Nat), j + gk = n ∧ v7 = .int .i64 j ∧ Hid (RnR xs w X j wr))
   case atStart => exact ⟨0, by omega, rfl, HI⟩
   case round =>
    clear HI hne
    obtain ⟨j, hj, rfl, HI⟩ := hrel
    obtain ⟨D, A, nn, c, TA, ct, HDj, HX, HG, HH, HOw, HB, HZ⟩ := HI.out
    clear HI
    by_cases hlt : j < n
    ·
     have hjl : j < xs.length := by rw [HL.out]; exact hlt
     obtain ⟨g, off, rfl, hc⟩ := HR.out.keep HB.out (Nat.le_refl _) (by rw [List.length_map, HL.out]; omega)
     have c3 := hc j (by rw [List.length_map]; exact hjl)
     obtain ⟨q, hq⟩ : ∃ x, xs[j] = x := ⟨_, rfl⟩
     rw [List.getElem_map, hq] at c3
     unfold Inp.t3 at c3
     dsimp only at c3
     obtain ⟨z0, z1, z2⟩ := c3
     have hxo : q.ok := by have h := HOK.out _ (List.getElem_mem hjl); rw [hq] at h; exact h
     have hall : ∀ i ∈ (xs.map (·.i)), i.ok := fun i hi => by
      obtain ⟨y, hy, rfl⟩ := List.mem_map.1 hi
      exact (HOK.out y hy).ic
     have hjm : j < (xs.map (·.i)).length := by rw [List.length_map]; exact hjl
     have hDo : Dv.ok ⟨D.p, D.l, D.al, D.m, D.t, D.rf⟩ := by have h := atD_ok hall j; rw [HDj.out] at h; exact h
     have htn : D.t.length = j := by have h := atD_len (l := (xs.map (·.i))) (Nat.le_of_lt hjm); rw [HDj.out] at h; exact h
     have hrf : D.rf ≤ 999999900 := by
      have h := (run_okD ((xs.map (·.i)).take j) newD_ok (fun i hi => hall i (List.mem_of_mem_take hi))).2.2
      rw [show runD newD ((xs.map (·.i)).take j) = D from HDj.out, List.length_take] at h
      dsimp only [newD] at h
      omega
     obtain ⟨hA, hTA, hln⟩ := HH.out
     obtain ⟨D', hD'⟩ : ∃ y, tickD ⟨D.p, D.l, D.al, D.m, D.t, D.rf⟩ q.i = y := ⟨_, rfl⟩
     have HD' : Hid (tickD ⟨D.p, D.l, D.al, D.m, D.t, D.rf⟩ q.i = D') := hD'
     have HDn : Hid (atD (xs.map (·.i)) (j + 1) = D') := by
      show _ = _
      rw [atD_succ hjm, HDj.out, List.getElem_map, hq]
      exact hD'
     have j0 : (0 : Int) ≤ j := by omega
     have j1 : (j : Int) < n := by omega
     have qj : IntKind.i64.wrap ((j : Int) + 1) = (j : Int) + 1 := wrap_in (by omega) (by omega)
     clear hc hall hq HOw HH
     go_upto_region 12 with fail
     have HK : SRn g off j q.i.b q.K q.L wr.drew := ⟨z0, z1, z2⟩
     refine wp_region_held_drew (S := fun w' => SRn g off j q.i.b q.K q.L w') (by kernel_rfl) HK (fun hHeld => ?_)
     have HB5 : Hid (Below w.heap.size w wr.drew) := HB.out.drew
     have HX5 : Hid (wr.drew.heap[X]? = some (.cells #[.int .i64 D.p.s, .int .i64 D.p.n, .int .i64 D.p.d, .int .i64 D.p.r, .int .i64 D.p.l, .int .i64 D.p.b, .int .i64 D.p.g, .int .i64 D.p.k, .slice A nn c, .int .i64 D.al, .int .i64 D.m.a, .bool D.m.b, .int .i64 D.m.n, .int .i64 D.m.d, .string ⟨D.m.s.toArray⟩, .slice TA j ct, .int .i64 D.rf] 37)) := HX.out
     have HZ5 : Hid (wr.drew.heap[w.heap.size]? = some (.cells #[.int .i64 0, .int .i64 0, .int .i64 0, .int .i64 0, .int .i64 0, .int .i64 0, .int .i64 0, .int .i64 0, .slice none 0 0, .int .i64 0, .int .i64 0, .bool false, .int .i64 0, .int .i64 0, .string ⟨#[]⟩, .slice none 0 0, .int .i64 0] 37)) := HZ.out
     have HG5 : Hid (G.Rd wr.drew A D.l) := HG.out.1
     have HT5 : Hid (RdY wr.drew TA D.t) := HG.out.2
     have hgX : g ≠ X := by
      obtain ⟨g', off', e, hc'⟩ := HR.out (by rw [List.length_map, HL.out]; omega)
      cases e
      have hl := World.block_lt_of_cell? w ⟨g, off + j * 3, none⟩ (hc' j (by rw [List.length_map]; exact hjl)).1
      intro e
      dsimp only at hl
      omega
     clear HB HX HZ HG z0 z1 z2
     generalize wr.drew = v0 at *
     try simp only [Act.put, sQ]
     refine tkQ 1 ?_ rfl ?_ ?_
     rotate_left
     · intro w_ hSw; obtain ⟨f0, f1, f2⟩ := hSw; (try clear hHeld); go_simp <;> with_reducible rfl
     try simp only [Act.put, sQ]
     refine tkQ 2 ?_ rfl ?_ ?_
     rotate_left
     · intro w_ hSw; obtain ⟨f0, f1, f2⟩ := hSw; (try clear hHeld); go_simp <;> with_reducible rfl
     try simp only [Act.put, sQ]
     refine tkQ 3 ?_ rfl ?_ ?_
     rotate_left
     · intro w_ hSw; obtain ⟨f0, f1, f2⟩ := hSw; (try clear hHeld); go_simp <;> with_reducible rfl
     try simp only [Act.put, sQ]
     refine tkQ 4 ?_ rfl ?_ ?_
     rotate_left
     · intro w_ hSw; obtain ⟨f0, f1, f2⟩ := hSw; (try clear hHeld); go_simp <;> with_reducible rfl
     try simp only [Act.put, sQ]
     refine wpAnyH_ready (rs := [0]) (by kernel_rfl) (by simp) ?_
     refine AllReadyH.cons rfl (fun J hJ => ?_) AllReadyH.nil
     refine loadR_any rfl _ _ rfl X rfl _ _ _ _ HX5.out Tryz.underlying37 rfl (by kernel_rfl) ?_
     refine hJ.out _ _ HK (fun hHeld1 => ?_)
     clear hJ J hHeld
     try simp only [Act.put, sQ]
     refine wpAnyH_ready (rs := [5]) (by kernel_rfl) (by simp) ?_
     refine AllReadyH.cons rfl (fun J hJ => ?_) AllReadyH.nil
     go_simp
     refine (tickS D.p A nn c D.al D.m TA j ct D.rf D.l D.t q hxo hDo hln hA htn (by omega) hTA hrf D' HD'.out _ HG5.out HT5.out).mono ?_
     rintro e w2 ⟨g2, c2, n2, gt2, ct2, rfl, ho2, hu2, hb2⟩
     have HK2 : SRn g off j q.i.b q.K q.L w2 := HK.on hb2
     have HB2 := bq HB5 hb2
     have HX2 := rq HX5 hb2
     have HZ2 := rq HZ5 hb2
     have HO2 : Hid (G.OwnN w2 (X + 1) g2 n2 c2 D'.l) := G.own_mono ho2 (row_lt HX5.out)
     have HU2 : Hid (OwnU w2 (X + 1) gt2 (j + 1) ct2 D'.t) := hu2.mono (row_lt HX5.out)
     clear hb2 ho2 hu2 HB5 HZ5 HG5 HT5 HX5
     (try go_wp2_with fail)
     refine hJ.out _ _ HK2 (fun hHeld2 => ?_)
     clear hJ J hHeld1 HK
     try simp only [Act.put, sQ]
     refine wpAnyH_ready (rs := [6]) (by kernel_rfl) (by simp) ?_
     refine AllReadyH.cons rfl (fun J hJ => ?_) AllReadyH.nil
     refine storeR_any rfl rfl _ _ _ rfl X (dR D'.p (.slice (some ⟨g2, 0, none⟩) n2 c2) D'.al D'.m (.slice (some ⟨gt2, 0, none⟩) (j + 1) ct2) D'.rf) rfl rfl (by kernel_rfl) (by kernel_rfl) HX2.out rfl ?_
     intro w3 hput
     have HX3 := aqRnS hput.1
     have HZ3 := aqRnS (hput.far HZ2.out (by omega))
     have HB3 := aqRnS (hput.2.2.2 _ _ (by omega) HB2.out)
     have HO3 : Hid (G.OwnN w3 (X + 1) g2 n2 c2 D'.l) := own_putM HO2.out hput (fun g' e => by have := own_ge HO2.out g' e; omega)
     have HU3 : Hid (OwnU w3 (X + 1) gt2 (j + 1) ct2 D'.t) := own_putM HU2.out hput (fun g' e => by have := own_ge HU2.out g' e; omega)
     have HK3 : SRn g off j q.i.b q.K q.L w3 := HK2.same (hput.2.1 g hgX)
     refine hJ.out _ _ HK3 (fun hHeld3 => ?_)
     clear HK3 HK2
     (try clear hJ)
     clear hHeld3
     (try simp only [Act.put, sQ])
     have HI : Hid (RnR xs w X (j + 1) w3) := ⟨D', some ⟨g2, 0, none⟩, n2, c2, some ⟨gt2, 0, none⟩, ct2, HDn.out, HX3.out, ⟨gown_rd HO3.out, OwnU.rd HU3.out⟩, ⟨(fun h => by cases h), (fun h => by cases h), G.OwnN.len HO3.out⟩, (fun _ => ⟨g2, gt2, rfl, rfl, G.own_mono HO3.out (by omega), OwnU.mono HU3.out (by omega)⟩), HB3.out, HZ3.out⟩
     clear HX3 HO3 HU3 HB3 HZ3 HDn HD'
     refine wpAnyH_done (by kernel_rfl) ?_ _
     go_wp2
     go_roundg (gk - 1)
     case measure => omega
     case rel => exact ⟨j + 1, by omega, by go_num, HI⟩
    ·
     have hne : ¬ ((j : Int) < n) := by omega
     obtain rfl : j = n := by omega
     obtain rfl : D = D2 := by rw [← HDj.out]; exact HD.out
     have hXw := row_lt HX.out
     go_wp2_with (first | refine wpList_load_row rfl _ _ rfl X rfl _ _ _ _ HX.out Tryz.underlying37 rfl (by kernel_rfl) ?_ | refine listStoreD rfl rfl _ _ _ rfl rfl w.heap.size (dR D.p (.slice A nn c) D.al D.m (.slice TA j ct) D.rf) rfl rfl rfl (by kernel_rfl) HZ.out rfl ?_)
     intro w7 hput
     have HZ7 := aqRnS hput.1
     have HB7 := aqRnS (hput.2.2.2 _ _ (Nat.le_refl _) HB.out)
     have HO7 : Hid (0 < j → ∃ g gt, A = some ⟨g, 0, none⟩ ∧ TA = some ⟨gt, 0, none⟩ ∧ G.OwnN w7 w.heap.size g nn c D.l ∧ OwnU w7 w.heap.size gt j ct D.t) := fun h => by
      obtain ⟨g, gt, e1, e2, h1, h2⟩ := HOw.out h
      exact ⟨g, gt, e1, e2, G.own_mono (own_putM h1 hput (fun g' e => by have := own_ge h1 g' e; omega)) (Nat.le_succ _), OwnU.mono (own_putM h2 hput (fun g' e => by have := own_ge h2 g' e; omega)) (Nat.le_succ _)⟩
     have HG7 : Hid (G.Rd w7 A D.l ∧ RdY w7 TA D.t) := by
      show _
      by_cases h0 : 0 < j
      ·
       obtain ⟨g, gt, rfl, rfl, h1, h2⟩ := HO7.out h0
       exact ⟨gown_rd h1, OwnU.rd h2⟩
      ·
       have e0 : D = newD := by
        have h := HDj.out
        rw [show j = 0 by omega, atD_zero] at h
        exact h.symm
       exact ⟨fun h => by rw [e0] at h; simp [newD] at h, fun h => by rw [e0] at h; simp [newD] at h⟩
     clear hput HZ HB HOw HG
     go_wp2
     refine bodyPost_ret (v := (.tuple #[.agg #[.int .i64 D.p.s, .int .i64 D.p.n, .int .i64 D.p.d, .int .i64 D.p.r, .int .i64 D.p.l, .int .i64 D.p.b, .int .i64 D.p.g, .int .i64 D.p.k, .slice A nn c, .int .i64 D.al, .int .i64 D.m.a, .bool D.m.b, .int .i64 D.m.n, .int .i64 D.m.d, .string ⟨D.m.s.toArray⟩, .slice TA j ct, .int .i64 D.rf], .bool true])) (results2_row Tryz.results9 _ _ w.heap.size _ _ _ (.bool true) rfl rfl HZ7.out (by kernel_rfl) (by kernel_rfl)) rfl ⟨A, nn, c, TA, ct, rfl, HO7.out, HG7.out.1, HG7.out.2, HH.out.2.2, HB7.out⟩
end Go.Proofs.YtfhhnelffldggaaGreatDoor
