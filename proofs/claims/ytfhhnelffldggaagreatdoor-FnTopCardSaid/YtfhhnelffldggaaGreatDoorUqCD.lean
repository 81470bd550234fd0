/-
  What latchesOf of the program asks its rounds, on a life that was run.
-/
import Derived.Test.YtfhhnelffldggaaGreatDoorUqCC
import Derived.Test.YtfhhnelffldggaaGreatDoorUqBO
import Derived.Test.YtfhhnelffldggaaGreatDoorUqBP
import Derived.Sort.CutIn
set_option maxRecDepth 100000
set_option maxHeartbeats 16000000
namespace Go.Proofs.YtfhhnelffldggaaGreatDoor
open Go.ChangeShapes Go.WideShapes Go.ChangeAt Go.RowKit Go.PlainAid Go.Shelf
set_option linter.unusedVariables false
set_option linter.unusedSimpArgs false
attribute [local go_sem] Oper.semAt_some
theorem aqLatJ {p : Prop} (h : p) : Hid p := h
theorem snJ_mem {l : List Ic} {j : Nat} {i : Ic} (hi : i.ok) : snJ l j i = true ↔ ((5, 0, 0, 0) : Od4) ∈ osJ l j i := by
 unfold snJ
 rw [List.any_eq_true]
 constructor
 ·
  rintro ⟨⟨k, n, d, v⟩, ho, h5⟩
  have hk : k = 5 := by simpa using h5
  obtain ⟨rfl, rfl, rfl⟩ := ord_seen (osJ_right hi _ ho) hk
  subst hk
  exact ho
 ·
  intro h
  exact ⟨_, h, rfl⟩
def inJ (ys : List Inp) (j : Nat) : Inp := ys[j]?.getD ⟨⟨0, [], [], 0⟩, ⟨#[]⟩, ⟨#[]⟩⟩
theorem inJ_at {ys : List Inp} {j : Nat} (h : j < ys.length) : inJ ys j = ys[j] := by unfold inJ; rw [List.getElem?_eq_getElem h]; rfl
def icS (ys : List Inp) : List Ic := ys.map (·.i)
theorem icS_at {ys : List Inp} {j : Nat} (h : j < ys.length) : (icS ys)[j]'(by unfold icS; simpa using h) = (inJ ys j).i := by rw [inJ_at h]; simp [icS]
theorem icS_ok {ys : List Inp} (hok : ∀ y ∈ ys, y.ok) : ∀ i ∈ icS ys, i.ok := fun i hi => by obtain ⟨y, hy, rfl⟩ := List.mem_map.1 hi; exact (hok y hy).ic
def encJ (ys : List Inp) (j : Nat) : Array Value := #[latV (alJ (icS ys) (j + 1)) (inJ ys j).i.b (alJ (icS ys) j) (snJ (icS ys) j (inJ ys j).i)]
theorem heldJ_of {ys : List Inp} (hok : ∀ y ∈ ys, y.ok) {j : Nat} (h : j < ys.length) : HeldJ (alJ (icS ys) (j + 1)) (inJ ys j).i.b (alJ (icS ys) j) (snJ (icS ys) j (inJ ys j).i) := by
 have hl : j < (icS ys).length := by unfold icS; simpa using h
 have hi := icS_ok hok _ (List.getElem_mem hl)
 rw [icS_at h] at hi
 refine ⟨hi.1, alJ_bd (icS_ok hok) j, ?_⟩
 rw [al_held (icS_ok hok) hl, icS_at h]
def hrO (g1 g3 : Nat) (m : Mn) (rf : Int) : Obj := .cells #[.int .i64 0, .int .i64 0, .int .i64 1, .int .i64 0, .int .i64 0, .int .i64 0, .int .i64 0, .int .i64 0, .slice (some ⟨g1, 0, none⟩) 0 0, .int .i64 0, .int .i64 m.a, .bool m.b, .int .i64 m.n, .int .i64 m.d, .string ⟨m.s.toArray⟩, .slice (some ⟨g3, 0, none⟩) 0 0, .int .i64 rf] 112
theorem latches_rounds (m : Nat) (hm : 6 ≤ m) (ys : List Inp) (hok : ∀ y ∈ ys, y.ok) (N : Nat) (hN : ys.length = N) (hN150 : N ≤ 150) (Bl Bi : Nat) (al il : Option Addr) (tc ci : Nat) (w0 : World) (hT : Q.Tab w0)
  (hBl : w0.cell? ⟨Bl, 0, none⟩ = some (.slice al N tc)) (hBi : w0.cell? ⟨Bi, 0, none⟩ = some (.slice il N ci)) (hRY : RdY w0 al (runD newD (icS ys)).t) (hRZ : RdZ w0 il (ys.map Inp.t3)) :
  Rounds m 99 #[.pointer (some ⟨Bl, 0, none⟩), .pointer (some ⟨Bi, 0, none⟩)] (encJ ys) N w0 := by
 intro l J W hW hl0 hl1 hJ hY h0
 refine callsIn_of_wp Tryz.func99 rfl trivial ?_ rfl
 simp only [Tryz.ntmps99, List.size_toArray, List.length_cons, List.length_nil, Nat.reduceAdd, Nat.reduceSub, Array.replicate_succ, Array.replicate_zero, List.push_toArray, List.append_toArray, List.nil_append, List.cons_append]
 have hBll : Bl < w0.heap.size := World.block_lt_of_cell? w0 ⟨Bl, 0, none⟩ hBl
 have hBil : Bi < w0.heap.size := World.block_lt_of_cell? w0 ⟨Bi, 0, none⟩ hBi
 have HOK := aqLatJ hok
 have HN := aqLatJ hN
 have HT := aqLatJ hT
 have HBl := aqLatJ hBl
 have HBi := aqLatJ hBi
 have HRY := aqLatJ hRY
 have HRZ := aqLatJ hRZ
 have HJ0 := aqLatJ h0
 have HJJ := aqLatJ hJ
 have HB := aqLatJ hW
 clear hok hN hT hBl hBi hRY hRZ h0 hJ hW
 gi_wp2_with fail
 refine ⟨trivial, fun _ => by omega, ?_⟩
 refine (callsIn_wide.2 (dnewI _)).mono ?_
 rintro e w1 ⟨rfl, hb1⟩
 have HJ1 : Hid (J 0 w1) := HJJ.out 0 _ _ HJ0.out hb1
 have HB1 : Hid (Below w0.heap.size w0 w1) := HB.out.trans (hb1.mono HB.out.size)
 have hs1 : W.heap.size ≤ w1.heap.size := hb1.size
 clear hb1 HJ0 HB
 gi_wp2_with fail
 refine ⟨trivial, fun _ => by omega, ?_⟩
 refine (callsIn_wide.2 (devofI newP none 0 0 [] 0 newM none 0 0 [] 0 rfl (by omega) rfl (by omega) (by decide) w1 (fun h => by simp at h) (fun h => by simp at h))).mono ?_
 rintro e w2 ⟨k, g1, g3, rfl, hrow, hk, _, _, hb2⟩
 have HK2 : Hid (w2.heap[k]? = some (hrO g1 g3 (atD (icS ys) 0).m 0)) := by show _ = _; rw [atD_zero]; exact hrow
 have HJ2 : Hid (J 0 w2) := HJJ.out 0 _ _ HJ1.out (hb2.mono hs1)
 have HB2 : Hid (Below w0.heap.size w0 w2) := HB1.out.trans (hb2.mono HB1.out.size)
 have hkW : W.heap.size ≤ k := Nat.le_trans hs1 hk
 have h00 : w0.heap.size ≤ W.heap.size := by omega
 clear hrow hk hb2 HB1 HJ1 hs1
 have kl : w2.cell? ⟨Bl, 0, none⟩ = some (.slice al N tc) := (HB2.out.cell (p := ⟨Bl, 0, none⟩) hBll).trans HBl.out
 gi_wp2_with fail
 clear kl
 gi_loopw [5, 13] (fun av iv wr => ∃ (j : Nat) (A rf : Int), j ≤ N ∧ av = .int .i64 A ∧ iv = .int .i64 j ∧ (0 ≤ rf ∧ rf ≤ (j : Int)) ∧ Hid (A = alJ (icS ys) j) ∧ Hid (wr.heap[k]? = some (hrO g1 g3 (atD (icS ys) j).m rf)) ∧ Hid (Below w0.heap.size w0 wr) ∧ Hid (J j wr)) (fun _ iv _ => N - (intOf iv).toNat)
 case atStart => exact ⟨0, 0, 0, Nat.zero_le _, rfl, rfl, ⟨by omega, by omega⟩, (alJ_zero _).symm, HK2, HB2, HJ2⟩
 case round =>
  clear HK2 HB2 HJ2
  obtain ⟨j, A, rf, hj, rfl, rfl, hrf, HA, HK, HB, HJ⟩ := hrel
  by_cases hlt : j < N
  ·
   have hjy : j < ys.length := by rw [HN.out]; exact hlt
   have hji : j < (icS ys).length := by unfold icS; simpa using hjy
   have hjt : j < (runD newD (icS ys)).t.length := by rw [run_tlen]; show j < 0 + _; omega
   obtain ⟨g, off, rfl, hc⟩ := (HRY.out.keep HB.out (Nat.le_refl _)) (by omega)
   obtain ⟨c0, c1, c2⟩ := hc j hjt
   obtain ⟨x, y, z, hx⟩ : ∃ x y z, (runD newD (icS ys)).t[j] = ((x, y, z) : Tk3) := ⟨_, _, _, rfl⟩
   have hy : y = alJ (icS ys) (j + 1) := by
    have h1 := tick_at hji hjt
    rw [hx] at h1
    rw [alJ_succ hji]
    exact congrArg (fun t : Tk3 => t.2.1) h1
   rw [hx] at c0 c1 c2
   dsimp only at c0 c1 c2
   obtain ⟨gz, oz, rfl, hz⟩ := (HRZ.out.keep HB.out (Nat.le_refl _)) (by simp; omega)
   obtain ⟨z0, z1, z2⟩ := hz j (by simp; omega)
   have hxo : (inJ ys j).ok := by rw [inJ_at hjy]; exact HOK.out _ (List.getElem_mem hjy)
   have hzt : (ys.map Inp.t3)[j]'(by simp; omega) = (inJ ys j).t3 := by rw [inJ_at hjy]; simp
   rw [hzt] at z0 z1 z2
   obtain ⟨q, hq⟩ : ∃ q, inJ ys j = q := ⟨_, rfl⟩
   rw [hq] at z0 z1 z2 hxo
   have z0' : wr.cell? ⟨gz, oz + j * 3, none⟩ = some (.int .i64 q.i.b) := z0
   have z1' : wr.cell? ⟨gz, oz + j * 3 + 1, none⟩ = some (.string q.K) := z1
   have z2' : wr.cell? ⟨gz, oz + j * 3 + 2, none⟩ = some (.string q.L) := z2
   have hgl : gz < wr.heap.size := World.block_lt_of_cell? wr ⟨gz, oz + j * 3, none⟩ z0'
   have hg0 : gz < w0.heap.size := by
    obtain ⟨g', o', e, hh⟩ := HRZ.out (by simp; omega)
    cases e
    exact World.block_lt_of_cell? w0 ⟨gz, oz + j * 3, none⟩ (hh j (by simp; omega)).1
   obtain ⟨W1, hW1⟩ : ∃ W1, wr.alloc (.cells #[.int .i64 x, .int .i64 y, .int .i64 z] 64) = W1 := ⟨_, rfl⟩
   have hba : Below wr.heap.size wr W1 := by rw [← hW1]; exact alM _ _
   have HX1 : Hid (W1.heap[wr.heap.size]? = some (.cells #[.int .i64 x, .int .i64 y, .int .i64 z] 64)) := by rw [← hW1]; exact heap_new wr _
   have HK1 := rq HK hba
   have HB1 : Hid (Below w0.heap.size w0 W1) := bel_on (Nat.le_refl _) HB.out hba
   have hkr : k < wr.heap.size := row_lt HK.out
   have HJ1 : Hid (J j W1) := HJJ.out j _ _ HJ.out (hba.mono (by omega))
   have HZ1 : Hid (∀ W2, Below w0.heap.size w0 W2 → W2.cell? ⟨gz, oz + j * 3, none⟩ = some (.int .i64 q.i.b) ∧ W2.cell? ⟨gz, oz + j * 3 + 1, none⟩ = some (.string q.K) ∧ W2.cell? ⟨gz, oz + j * 3 + 2, none⟩ = some (.string q.L)) := (fun W2 hb => by
    obtain ⟨g', o', e, hh⟩ := HRZ.out (by simp; omega)
    cases e
    obtain ⟨y0, y1, y2⟩ := hh j (by simp; omega)
    rw [hzt, hq] at y0 y1 y2
    exact ⟨(hb.cell (p := ⟨gz, oz + j * 3, none⟩) hg0).trans y0, (hb.cell (p := ⟨gz, oz + j * 3 + 1, none⟩) hg0).trans y1, (hb.cell (p := ⟨gz, oz + j * 3 + 2, none⟩) hg0).trans y2⟩)
   have HY := aqLatJ hy
   have HQ := aqLatJ hq
   have HJI := aqLatJ hji
   have i0 : (0 : Int) ≤ (j : Int) := by omega
   have i1 : (j : Int) < (N : Int) := by omega
   clear hc hz z0 z1 z2 z0' z1' z2' hx hy hzt hq hba HK HB HJ hjt hji hjy hgl
   gi_upto_region 5 with fail
   (try rw [hW1])
   clear hW1 c0 c1 c2
   obtain ⟨z0, z1, z2⟩ := HZ1.out W1 HB1.out
   have kbi : W1.cell? ⟨Bi, 0, none⟩ = some (.slice (some ⟨gz, oz, none⟩) N ci) := (HB1.out.cell (p := ⟨Bi, 0, none⟩) hBil).trans HBi.out
   gi_wp2_with fail
   refine ⟨trivial, fun _ => by omega, ?_⟩
   obtain ⟨qo, hqo⟩ : ∃ n, (osJ (icS ys) j q.i).length = n := ⟨_, rfl⟩
   have hqb : qo ≤ 1000 := by
    have e1 := allM_len q.i.ks (atD (icS ys) j).m
    have e2 := lo_len hxo.ic
    have e3 := hxo.ic.2.1
    rw [← hqo]
    unfold osJ
    rw [List.length_append]
    omega
   have CO := ordersI k newP (.slice (some ⟨g1, 0, none⟩) 0 0) 0 (atD (icS ys) j).m (.slice (some ⟨g3, 0, none⟩) 0 0) rf q hxo (atD_ok (icS_ok HOK.out) j).m (allM (atD (icS ys) j).m q.i.ks).1 (allM (atD (icS ys) j).m q.i.ks).2 rfl (osJ (icS ys) j q.i) qo rfl hqo hrf.1 (by omega) W1 (Q.tab_below HT.out HB1.out) HK1.out
   refine (callsIn_wide.2 CO).mono ?_
   rintro e w3 ⟨Ao, co, rfl, hoa, hrow3, hgr3⟩
   have hkl : k ≠ l := by omega
   have HX3 : Hid (w3.heap[wr.heap.size]? = some (.cells #[.int .i64 x, .int .i64 y, .int .i64 z] 64)) := (hgr3.block _ (row_lt HX1.out) (fun e => by cases e; omega)).trans HX1.out
   have HK3 : Hid (w3.heap[k]? = some (hrO g1 g3 (atD (icS ys) (j + 1)).m (rf + q.i.lr))) := by
    show _ = _
    rw [atD_succ HJI.out, icS_at (by have := HJI.out; unfold icS at this; simpa using this), HQ.out]
    exact hrow3
   have HB3 : Hid (Below w0.heap.size w0 w3) := HB1.out.trans (grown_below' hgr3 (by omega) HB1.out.size)
   have HJ3 : Hid (J j w3) := HJJ.out j _ _ HJ1.out (grown_below' hgr3 hkW (by have := row_lt HK1.out; omega))
   have HO3 : Hid (RdQ w3 Ao (osJ (icS ys) j q.i)) := hoa.own.rd
   have hrf3 : 0 ≤ rf + q.i.lr ∧ rf + q.i.lr ≤ ((j + 1 : Nat) : Int) := by have := hxo.ic.2.2.2.1; omega
   have hsz3 : wr.heap.size < w3.heap.size := row_lt HX3.out
   clear CO hoa hrow3 hgr3 HX1 HK1 HB1 HJ1 z0 z1 z2 kbi
   gi_wp2_with fail
   refine ⟨trivial, fun _ => by omega, ?_⟩
   refine (callsIn_wide.2 (containsO Ao (osJ (icS ys) j q.i) qo co hqo hqb 5 0 0 0 (snJ (icS ys) j q.i) (snJ_mem hxo.ic) w3 HO3.out)).mono ?_
   rintro e w4 ⟨rfl, hb4⟩
   have HX4 := rq HX3 hb4
   have HK4 := rq HK3 hb4
   have HB4 : Hid (Below w0.heap.size w0 w4) := bel_on (Nat.le_refl _) HB3.out hb4
   have HJ4 : Hid (J j w4) := HJJ.out j _ _ HJ3.out (hb4.mono (by have := row_lt HK3.out; omega))
   clear hb4 HX3 HK3 HB3 HJ3 HO3 hqo
   obtain ⟨sn, hsn⟩ : ∃ s, snJ (icS ys) j q.i = s := ⟨_, rfl⟩
   have HSN := aqLatJ hsn
   rw [hsn]
   clear hsn
   gi_upto_region 6 with fail
   have kx := (boxY_cells HX4.out).1.2.1
   obtain ⟨z0, z1, z2⟩ := HZ1.out w4 HB4.out
   have kbi : w4.cell? ⟨Bi, 0, none⟩ = some (.slice (some ⟨gz, oz, none⟩) N ci) := (HB4.out.cell (p := ⟨Bi, 0, none⟩) hBil).trans HBi.out
   have HJ5 : Hid (J j w4.drew) := HJJ.out j _ _ HJ4.out ((Below.refl _ _).drew)
   have HX5 : Hid (w4.drew.heap[wr.heap.size]? = some (.cells #[.int .i64 x, .int .i64 y, .int .i64 z] 64)) := HX4.out
   have HK5 : Hid (w4.drew.heap[k]? = some (hrO g1 g3 (atD (icS ys) (j + 1)).m (rf + q.i.lr))) := HK4.out
   have HB5 : Hid (Below w0.heap.size w0 w4.drew) := HB4.out.drew
   have kx5 : w4.drew.cell? ⟨wr.heap.size, 1, none⟩ = some (.int .i64 y) := kx
   have kb5 : w4.drew.cell? ⟨Bi, 0, none⟩ = some (.slice (some ⟨gz, oz, none⟩) N ci) := kbi
   have z05 : w4.drew.cell? ⟨gz, oz + j * 3, none⟩ = some (.int .i64 q.i.b) := z0
   refine wpIn_region_any (by kernel_rfl) ?_
   show wpAnyIn _ _ _ _ _ _ _ _ _ w4.drew
   clear kx kbi z0 z1 z2 HX4 HK4 HB4 HJ4 HZ1
   generalize w4.drew = v0 at *
   obtain ⟨fn, tmps, assign, body, hy, hR⟩ := hY j v0 hlt HJ5.out
   have hen : encJ ys j = #[.agg #[.int .i64 y, .int .i64 q.i.b, .int .i64 A, .bool sn]] := by
    unfold encJ
    rw [HQ.out, HSN.out, ← HY.out, ← HA.out]
   rw [hen] at hy
   clear hen
   refine wpAnyIn_take (i := 0) (v := ?_) rfl rfl (by kernel_rfl) (by kernel_rfl) (by kernel_rfl) (fun _ _ _ h => h) ⟨Or.inl ⟨by rfl, ?_⟩, fun _ => rfl⟩ ?_
   rotate_left
   · intro w_; go_simp <;> with_reducible rfl
   try simp only [Act.put, sQ]
   refine wpAnyIn_take (i := 1) (v := ?_) rfl rfl (by kernel_rfl) (by kernel_rfl) (by kernel_rfl) (fun _ _ _ h => h) ⟨Or.inl ⟨by rfl, ?_⟩, fun _ => rfl⟩ ?_
   rotate_left
   · intro w_; go_simp <;> with_reducible rfl
   try simp only [Act.put, sQ]
   refine wpAnyIn_take (i := 4) (v := ?_) rfl rfl (by kernel_rfl) (by kernel_rfl) (by kernel_rfl) (fun _ _ _ h => h) ⟨Or.inl ⟨by rfl, ?_⟩, fun _ => rfl⟩ ?_
   rotate_left
   · intro w_; go_simp <;> with_reducible rfl
   try simp only [Act.put, sQ]
   refine wpAnyIn_take (i := 8) (v := ?_) rfl rfl (by kernel_rfl) (by kernel_rfl) (by kernel_rfl) (fun _ _ _ h => h) ⟨Or.inl ⟨by rfl, ?_⟩, fun _ => rfl⟩ ?_
   rotate_left
   · intro w_; go_simp <;> with_reducible rfl
   try simp only [Act.put, sQ]
   refine wpAnyIn_take (i := 9) (v := ?_) rfl rfl (by kernel_rfl) (by kernel_rfl) (by kernel_rfl) (fun _ _ _ h => h) ⟨Or.inl ⟨by rfl, ?_⟩, fun _ => rfl⟩ ?_
   rotate_left
   · intro w_; go_simp <;> with_reducible rfl
   try simp only [Act.put, sQ]
   refine wpAnyIn_ready (rs := [2, 3]) (by kernel_rfl) (by simp) ?_
   refine AllReadyIn.cons rfl (fun K hK => ?_) (AllReadyIn.cons rfl (fun K hK => ?_) AllReadyIn.nil)
   ·
    go_simp
    refine hK _ _ ?_
    clear hK K
    try simp only [Act.put, sQ]
    refine wpAnyIn_ready (rs := [3]) (by kernel_rfl) (by simp) ?_
    refine AllReadyIn.cons rfl (fun K hK => ?_) AllReadyIn.nil
    go_simp
    refine hK _ _ ?_
    clear hK K
    try simp only [Act.put, sQ]
    refine wpAnyIn_take (i := 5) (v := ?_) rfl rfl (by kernel_rfl) (by kernel_rfl) (by kernel_rfl) (fun _ _ _ h => h) ⟨Or.inl ⟨by rfl, ?_⟩, fun _ => rfl⟩ ?_
    rotate_left
    · intro w_; go_simp <;> with_reducible rfl
    try simp only [Act.put, sQ]
    refine wpAnyIn_take (i := 6) (v := ?_) rfl rfl (by kernel_rfl) (by kernel_rfl) (by kernel_rfl) (fun _ _ _ h => h) ⟨Or.inl ⟨by rfl, ?_⟩, fun _ => rfl⟩ ?_
    rotate_left
    · intro w_; go_simp <;> with_reducible rfl
    try simp only [Act.put, sQ]
    refine wpAnyIn_ready (rs := [7]) (by kernel_rfl) (by simp) ?_
    refine AllReadyIn.cons rfl (fun K hK => ?_) AllReadyIn.nil
    go_simp
    refine hK _ _ ?_
    clear hK K
    try simp only [Act.put, sQ]
    refine wpAnyIn_take (i := 10) (v := ?_) rfl rfl (by kernel_rfl) (by kernel_rfl) (by kernel_rfl) (fun _ _ _ h => h) ⟨Or.inl ⟨by rfl, ?_⟩, fun _ => rfl⟩ ?_
    rotate_left
    · intro w_; go_simp <;> with_reducible rfl
    try simp only [Act.put, sQ]
    refine wpAnyIn_ready (rs := [11]) (by kernel_rfl) (by simp) ?_
    refine AllReadyIn.cons rfl (fun K hK => ?_) AllReadyIn.nil
    go_simp
    refine ⟨fun _ => by omega, hR.mono ?_⟩
    rintro e W3 ⟨rfl, hJ6, hg3⟩
    refine hK _ _ ?_
    clear hK K
    try simp only [Act.put, sQ]
    refine wpAnyIn_take (i := 12) (v := ?_) rfl rfl (by kernel_rfl) (by kernel_rfl) (by kernel_rfl) (fun _ _ _ h => h) ⟨Or.inl ⟨by rfl, ?_⟩, fun _ => rfl⟩ ?_
    rotate_left
    · intro w_; go_simp <;> with_reducible rfl
    try simp only [Act.put, sQ]
    refine wpAnyIn_done (by kernel_rfl) ?_ _
    have hkl : k ≠ l := by omega
    have hrl : wr.heap.size ≠ l := by omega
    have HX6 : Hid (W3.heap[wr.heap.size]? = some (.cells #[.int .i64 x, .int .i64 y, .int .i64 z] 64)) := (hg3.block _ (row_lt HX5.out) (fun e => by cases e; exact hrl rfl)).trans HX5.out
    have HK6 : Hid (W3.heap[k]? = some (hrO g1 g3 (atD (icS ys) (j + 1)).m (rf + q.i.lr))) := (hg3.block _ (row_lt HK5.out) (fun e => by cases e; exact hkl rfl)).trans HK5.out
    have HB6 : Hid (Below w0.heap.size w0 W3) := HB5.out.trans (grown_below' hg3 hl0 HB5.out.size)
    have HJ6 := aqLatJ hJ6
    have kx6 := (boxY_cells HX6.out).1.2.1
    clear hJ6 hg3 HX5 HK5 HB5 HJ5 hkl hrl kx5 kb5 z05 hy hR
    gi_wp2
    go_roundw
    case rel => exact ⟨j + 1, y, rf + q.i.lr, by omega, rfl, by go_num, hrf3, HY, HK6, HB6, HJ6⟩
    case measure => simp [intOf]; omega
   ·
    go_simp
    refine hK _ _ ?_
    clear hK K
    try simp only [Act.put, sQ]
    refine wpAnyIn_take (i := 5) (v := ?_) rfl rfl (by kernel_rfl) (by kernel_rfl) (by kernel_rfl) (fun _ _ _ h => h) ⟨Or.inl ⟨by rfl, ?_⟩, fun _ => rfl⟩ ?_
    rotate_left
    · intro w_; go_simp <;> with_reducible rfl
    try simp only [Act.put, sQ]
    refine wpAnyIn_take (i := 6) (v := ?_) rfl rfl (by kernel_rfl) (by kernel_rfl) (by kernel_rfl) (fun _ _ _ h => h) ⟨Or.inl ⟨by rfl, ?_⟩, fun _ => rfl⟩ ?_
    rotate_left
    · intro w_; go_simp <;> with_reducible rfl
    try simp only [Act.put, sQ]
    refine wpAnyIn_ready (rs := [2, 7]) (by kernel_rfl) (by simp) ?_
    refine AllReadyIn.cons rfl (fun K hK => ?_) (AllReadyIn.cons rfl (fun K hK => ?_) AllReadyIn.nil)
    ·
     go_simp
     refine hK _ _ ?_
     clear hK K
     try simp only [Act.put, sQ]
     refine wpAnyIn_ready (rs := [7]) (by kernel_rfl) (by simp) ?_
     refine AllReadyIn.cons rfl (fun K hK => ?_) AllReadyIn.nil
     go_simp
     refine hK _ _ ?_
     clear hK K
     try simp only [Act.put, sQ]
     refine wpAnyIn_take (i := 10) (v := ?_) rfl rfl (by kernel_rfl) (by kernel_rfl) (by kernel_rfl) (fun _ _ _ h => h) ⟨Or.inl ⟨by rfl, ?_⟩, fun _ => rfl⟩ ?_
     rotate_left
     · intro w_; go_simp <;> with_reducible rfl
     try simp only [Act.put, sQ]
     refine wpAnyIn_ready (rs := [11]) (by kernel_rfl) (by simp) ?_
     refine AllReadyIn.cons rfl (fun K hK => ?_) AllReadyIn.nil
     go_simp
     refine ⟨fun _ => by omega, hR.mono ?_⟩
     rintro e W3 ⟨rfl, hJ6, hg3⟩
     refine hK _ _ ?_
     clear hK K
     try simp only [Act.put, sQ]
     refine wpAnyIn_take (i := 12) (v := ?_) rfl rfl (by kernel_rfl) (by kernel_rfl) (by kernel_rfl) (fun _ _ _ h => h) ⟨Or.inl ⟨by rfl, ?_⟩, fun _ => rfl⟩ ?_
     rotate_left
     · intro w_; go_simp <;> with_reducible rfl
     try simp only [Act.put, sQ]
     refine wpAnyIn_done (by kernel_rfl) ?_ _
     have hkl : k ≠ l := by omega
     have hrl : wr.heap.size ≠ l := by omega
     have HX6 : Hid (W3.heap[wr.heap.size]? = some (.cells #[.int .i64 x, .int .i64 y, .int .i64 z] 64)) := (hg3.block _ (row_lt HX5.out) (fun e => by cases e; exact hrl rfl)).trans HX5.out
     have HK6 : Hid (W3.heap[k]? = some (hrO g1 g3 (atD (icS ys) (j + 1)).m (rf + q.i.lr))) := (hg3.block _ (row_lt HK5.out) (fun e => by cases e; exact hkl rfl)).trans HK5.out
     have HB6 : Hid (Below w0.heap.size w0 W3) := HB5.out.trans (grown_below' hg3 hl0 HB5.out.size)
     have HJ6 := aqLatJ hJ6
     have kx6 := (boxY_cells HX6.out).1.2.1
     clear hJ6 hg3 HX5 HK5 HB5 HJ5 hkl hrl kx5 kb5 z05 hy hR
     gi_wp2
     go_roundw
     case rel => exact ⟨j + 1, y, rf + q.i.lr, by omega, rfl, by go_num, hrf3, HY, HK6, HB6, HJ6⟩
     case measure => simp [intOf]; omega
    ·
     go_simp
     refine hK _ _ ?_
     clear hK K
     try simp only [Act.put, sQ]
     refine wpAnyIn_ready (rs := [2]) (by kernel_rfl) (by simp) ?_
     refine AllReadyIn.cons rfl (fun K hK => ?_) AllReadyIn.nil
     go_simp
     refine hK _ _ ?_
     clear hK K
     try simp only [Act.put, sQ]
     refine wpAnyIn_take (i := 10) (v := ?_) rfl rfl (by kernel_rfl) (by kernel_rfl) (by kernel_rfl) (fun _ _ _ h => h) ⟨Or.inl ⟨by rfl, ?_⟩, fun _ => rfl⟩ ?_
     rotate_left
     · intro w_; go_simp <;> with_reducible rfl
     try simp only [Act.put, sQ]
     refine wpAnyIn_ready (rs := [11]) (by kernel_rfl) (by simp) ?_
     refine AllReadyIn.cons rfl (fun K hK => ?_) AllReadyIn.nil
     go_simp
     refine ⟨fun _ => by omega, hR.mono ?_⟩
     rintro e W3 ⟨rfl, hJ6, hg3⟩
     refine hK _ _ ?_
     clear hK K
     try simp only [Act.put, sQ]
     refine wpAnyIn_take (i := 12) (v := ?_) rfl rfl (by kernel_rfl) (by kernel_rfl) (by kernel_rfl) (fun _ _ _ h => h) ⟨Or.inl ⟨by rfl, ?_⟩, fun _ => rfl⟩ ?_
     rotate_left
     · intro w_; go_simp <;> with_reducible rfl
     try simp only [Act.put, sQ]
     refine wpAnyIn_done (by kernel_rfl) ?_ _
     have hkl : k ≠ l := by omega
     have hrl : wr.heap.size ≠ l := by omega
     have HX6 : Hid (W3.heap[wr.heap.size]? = some (.cells #[.int .i64 x, .int .i64 y, .int .i64 z] 64)) := (hg3.block _ (row_lt HX5.out) (fun e => by cases e; exact hrl rfl)).trans HX5.out
     have HK6 : Hid (W3.heap[k]? = some (hrO g1 g3 (atD (icS ys) (j + 1)).m (rf + q.i.lr))) := (hg3.block _ (row_lt HK5.out) (fun e => by cases e; exact hkl rfl)).trans HK5.out
     have HB6 : Hid (Below w0.heap.size w0 W3) := HB5.out.trans (grown_below' hg3 hl0 HB5.out.size)
     have HJ6 := aqLatJ hJ6
     have kx6 := (boxY_cells HX6.out).1.2.1
     clear hJ6 hg3 HX5 HK5 HB5 HJ5 hkl hrl kx5 kb5 z05 hy hR
     gi_wp2
     go_roundw
     case rel => exact ⟨j + 1, y, rf + q.i.lr, by omega, rfl, by go_num, hrf3, HY, HK6, HB6, HJ6⟩
     case measure => simp [intOf]; omega
  ·
   obtain rfl : j = N := by omega
   gi_wp2
   go_end0
   exact ⟨⟨_, rfl⟩, HJ.out⟩
theorem latchesOfI (a b : Option Addr) (n c n2 c2 : Nat) (w : World) :
  Calls Tryz.prog 41 #[.slice a n c, .slice b n2 c2] w fun e w' => e = .returned (fnL w.heap.size (w.heap.size + 1)) ∧ w' = (w.alloc (.cells #[.slice a n c] 35)).alloc (.cells #[.slice b n2 c2] 24) := by
 go_enter Tryz.func41, Tryz.ntmps41
 go_wp2
 go_ret
 exact ⟨rfl, rfl⟩
theorem latchedI (ys : List Inp) (hok : ∀ y ∈ ys, y.ok) (N : Nat) (hN : ys.length = N) (hN150 : N ≤ 150) (al il : Option Addr) (tc ci : Nat) (w : World) (hT : Q.Tab w)
  (hRY : RdY w al (runD newD (icS ys)).t) (hRZ : RdZ w il (ys.map Inp.t3)) :
  Calls Tryz.prog 13 #[.slice al N tc, .slice il N ci] w fun e w' => e = .returned (.bool true) ∧ Below w.heap.size w w' := by
 obtain ⟨W, hW⟩ : ∃ W, (w.alloc (.cells #[.slice al N tc] 35)).alloc (.cells #[.slice il N ci] 24) = W := ⟨_, rfl⟩
 have hb : Below w.heap.size w W := by rw [← hW]; exact ((Below.refl _ _).alloc (Nat.le_refl _) _).alloc (by simp) _
 have h1 : W.cell? ⟨w.heap.size, 0, none⟩ = some (.slice al N tc) := by rw [← hW]; exact ((Boxed.new w _ _).alloc _).cell
 have h2 : W.cell? ⟨w.heap.size + 1, 0, none⟩ = some (.slice il N ci) := by
  rw [← hW]
  have := (Boxed.new (w.alloc (.cells #[.slice al N tc] 35)) 24 (.slice il N ci)).cell
  rwa [World.size_alloc] at this
 have hbl : w.heap.size < W.heap.size := World.block_lt_of_cell? W ⟨w.heap.size, 0, none⟩ h1
 have hbi : w.heap.size + 1 < W.heap.size := World.block_lt_of_cell? W ⟨w.heap.size + 1, 0, none⟩ h2
 have hseq : ∀ W0, Below W.heap.size W W0 → Rounds (7 - 1) 99 #[.pointer (some ⟨w.heap.size, 0, none⟩), .pointer (some ⟨w.heap.size + 1, 0, none⟩)] (fun j => #[latV (alJ (icS ys) (j + 1)) (inJ ys j).i.b (alJ (icS ys) j) (snJ (icS ys) j (inJ ys j).i)]) N W0 := fun W0 hb0 =>
  latches_rounds 6 (by omega) ys hok N hN hN150 w.heap.size (w.heap.size + 1) al il tc ci W0 (Q.tab_below (Q.tab_below hT hb) hb0) ((hb0.cell (p := ⟨w.heap.size, 0, none⟩) hbl).trans h1) ((hb0.cell (p := ⟨w.heap.size + 1, 0, none⟩) hbi).trans h2) ((hRY.on hb).on hb0) ((hRZ.on hb).on hb0)
 have CI := callsIn_wide.1 (isSoH 7 (by omega) N (fun j => alJ (icS ys) (j + 1)) (fun j => (inJ ys j).i.b) (fun j => alJ (icS ys) j) (fun j => snJ (icS ys) j (inJ ys j).i) (fun j hj => heldJ_of hok (by omega)) w.heap.size (w.heap.size + 1) W hseq)
 have HB := hq hb
 clear hseq hb h1 h2 hbl hbi hT hRY hRZ hok hN
 go_enter Tryz.func13, Tryz.ntmps13
 go_wp2_with fail
 refine (latchesOfI al il N tc N ci _).mono ?_
 rw [hW]
 rintro e w1 ⟨rfl, rfl⟩
 clear hW
 go_wp2_with fail
 refine CI.mono ?_
 rintro e w2 ⟨rfl, hb2⟩
 have HB2 := bq HB hb2
 clear hb2 HB CI
 go_wp2
 go_ret
 exact ⟨by simp, HB2.out⟩
end Go.Proofs.YtfhhnelffldggaaGreatDoor
