/-
  What latchesOf of the program asks its rounds, on a life that was run.
-/
import Derived.Test.YtdifmjcghaoilaaGreatDoorGaBX
import Derived.Test.YtdifmjcghaoilaaGreatDoorGaCJ
import Derived.Test.YtdifmjcghaoilaaGreatDoorGaCQ
import Derived.Sort.CutIn
namespace Go.Proofs.YtdifmjcghaoilaaGreatDoor
open Go.ChangeShapes Go.WideShapes Go.ChangeAt Go.RowKit Go.PlainAid Go.Shelf
set_option linter.unusedVariables false
set_option linter.unusedSimpArgs false

attribute [local go_sem] Oper.semAt_some

theorem snJ_mem {l : List Ic} {j : Nat} {i : Ic} (hi : i.ok) : snJ l j i = true ↔ ((5, 0, 0, 0) : Od4) ∈ osJ l j i := by
  unfold snJ
  rw [List.any_eq_true]
  constructor
  · rintro ⟨⟨k, n, d, v⟩, ho, h5⟩
    have hk : k = 5 := by simpa using h5
    obtain ⟨rfl, rfl, rfl⟩ := ord_seen (osJ_right hi _ ho) hk
    subst hk
    exact ho
  · intro h
    exact ⟨_, h, rfl⟩
def inJ (ys : List Inp) (j : Nat) : Inp := ys[j]?.getD ⟨⟨0, [], [], 0⟩, ⟨#[]⟩, ⟨#[]⟩⟩
theorem inJ_at {ys : List Inp} {j : Nat} (h : j < ys.length) : inJ ys j = ys[j] := by unfold inJ; rw [List.getElem?_eq_getElem h]; rfl
def icS (ys : List Inp) : List Ic := ys.map (·.i)
theorem icS_at {ys : List Inp} {j : Nat} (h : j < ys.length) : (icS ys)[j]'(by unfold icS; simpa using h) = (inJ ys j).i := by rw [inJ_at h]; simp [icS]
theorem icS_ok {ys : List Inp} (hok : ∀ y ∈ ys, y.ok) : ∀ i ∈ icS ys, i.ok := fun i hi => by obtain ⟨y, hy, rfl⟩ := List.mem_map.1 hi; exact (hok y hy).ic
def encJ (ys : List Inp) (j : Nat) : Array Value := #[latV (alJ (icS ys) (j + 1)) (inJ ys j).i.b (alJ (icS ys) j) (snJ (icS ys) j (inJ ys j).i)]
theorem heldJ_of {ys : List Inp} (hok : ∀ y ∈ ys, y.ok) {j : Nat} (h : j < ys.length) : HeldJ (alJ (icS ys) (j + 1)) (inJ ys j).i.b (alJ (icS ys) j) (snJ (icS ys) j (inJ ys j).i) := by
  have hl : j < (icS ys).length := by unfold icS; simpa using h
  have hi := icS_ok hok _ (List.getElem_mem hl)
  rw [icS_at h] at hi
  refine ⟨hi.1, alJ_bd (icS_ok hok) j, ?_⟩
  rw [al_held (icS_ok hok) hl, icS_at h]
/-- the hearer's row -/
def hrO (g1 g3 : Nat) (m : Mn) (rf : Int) : Obj := .cells #[.int .i64 0, .int .i64 0, .int .i64 1, .int .i64 0, .int .i64 0, .int .i64 0, .int .i64 0, .int .i64 0, .slice (some ⟨g1, 0, none⟩) 0 0, .int .i64 0, .int .i64 m.a, .bool m.b, .int .i64 m.n, .int .i64 m.d, .string ⟨m.s.toArray⟩, .slice (some ⟨g3, 0, none⟩) 0 0, .int .i64 rf] 92
set_option maxRecDepth 100000 in
set_option maxHeartbeats 16000000 in
theorem latches_rounds (m : Nat) (hm : 6 ≤ m) (ys : List Inp) (hok : ∀ y ∈ ys, y.ok) (N : Nat) (hN : ys.length = N) (hN150 : N ≤ 150) (Bl Bi : Nat) (al il : Option Addr) (tc ci : Nat) (w0 : World) (hT : Q.Tab w0)
    (hBl : w0.cell? ⟨Bl, 0, none⟩ = some (.slice al N tc)) (hBi : w0.cell? ⟨Bi, 0, none⟩ = some (.slice il N ci)) (hRY : RdY w0 al (runD newD (icS ys)).t) (hRZ : RdZ w0 il (ys.map Inp.t3)) :
    Rounds m 53 #[.pointer (some ⟨Bl, 0, none⟩), .pointer (some ⟨Bi, 0, none⟩)] (encJ ys) N w0 := by
  intro l J W hW hl0 hl1 hJ hY h0
  refine callsIn_of_wp Tryz.func53 rfl trivial ?_ rfl
  simp only [Tryz.ntmps53, List.size_toArray, List.length_cons, List.length_nil, Nat.reduceAdd, Nat.reduceSub, Array.replicate_succ, Array.replicate_zero, List.push_toArray, List.append_toArray, List.nil_append, List.cons_append]
  have hBll : Bl < w0.heap.size := World.block_lt_of_cell? w0 ⟨Bl, 0, none⟩ hBl
  have hBil : Bi < w0.heap.size := World.block_lt_of_cell? w0 ⟨Bi, 0, none⟩ hBi
  have HOK : Hid (∀ y ∈ ys, y.ok) := hok
  have HN : Hid (ys.length = N) := hN
  have HT : Hid (Q.Tab w0) := hT
  have HBl : Hid (w0.cell? ⟨Bl, 0, none⟩ = some (.slice al N tc)) := hBl
  have HBi : Hid (w0.cell? ⟨Bi, 0, none⟩ = some (.slice il N ci)) := hBi
  have HRY : Hid (RdY w0 al (runD newD (icS ys)).t) := hRY
  have HRZ : Hid (RdZ w0 il (ys.map Inp.t3)) := hRZ
  have HJ0 : Hid (J 0 W) := h0
  have HJJ : Hid (∀ j A B, J j A → Below W.heap.size A B → J j B) := hJ
  have HB : Hid (Below w0.heap.size w0 W) := hW
  clear hok hN hT hBl hBi hRY hRZ h0 hJ hW
  gi_wp2_with fail
  refine ⟨trivial, fun _ => by omega, ?_⟩
  refine (callsIn_wide.2 (dnewI _)).mono ?_
  rintro e w1 ⟨rfl, hb1⟩
  have HJ1 : Hid (J 0 w1) := HJJ.out 0 _ _ HJ0.out hb1
  have HB1 : Hid (Below w0.heap.size w0 w1) := HB.out.trans (hb1.mono HB.out.size)
  have hs1 : W.heap.size ≤ w1.heap.size := hb1.size
  clear hb1 HJ0 HB
  gi_wp2_with fail
  refine ⟨trivial, fun _ => by omega, ?_⟩
  refine (callsIn_wide.2 (devofI newP none 0 0 [] 0 newM none 0 0 [] 0 rfl (by omega) rfl (by omega) (by decide) w1 (fun h => by simp at h) (fun h => by simp at h))).mono ?_
  rintro e w2 ⟨k, g1, g3, rfl, hrow, hk, _, _, hb2⟩
  have HK2 : Hid (w2.heap[k]? = some (hrO g1 g3 (atD (icS ys) 0).m 0)) := by show _ = _; rw [atD_zero]; exact hrow
  have HJ2 : Hid (J 0 w2) := HJJ.out 0 _ _ HJ1.out (hb2.mono hs1)
  have HB2 : Hid (Below w0.heap.size w0 w2) := HB1.out.trans (hb2.mono HB1.out.size)
  have hkW : W.heap.size ≤ k := Nat.le_trans hs1 hk
  have h00 : w0.heap.size ≤ W.heap.size := by omega
  clear hrow hk hb2 HB1 HJ1 hs1
  have kl : w2.cell? ⟨Bl, 0, none⟩ = some (.slice al N tc) := (HB2.out.cell (p := ⟨Bl, 0, none⟩) hBll).trans HBl.out
  gi_wp2_with fail
  clear kl
  gi_loopw [5, 13] (fun av iv wr => ∃ (j : Nat) (A rf : Int), j ≤ N ∧ av = .int .i64 A ∧ iv = .int .i64 j ∧ (0 ≤ rf ∧ rf ≤ (j : Int)) ∧ Hid (A = alJ (icS ys) j) ∧ Hid (wr.heap[k]? = some (hrO g1 g3 (atD (icS ys) j).m rf)) ∧ Hid (Below w0.heap.size w0 wr) ∧ Hid (J j wr)) (fun _ iv _ => N - (intOf iv).toNat)
  case atStart => exact ⟨0, 0, 0, Nat.zero_le _, rfl, rfl, ⟨by omega, by omega⟩, (alJ_zero _).symm, HK2, HB2, HJ2⟩
  case round =>
    clear HK2 HB2 HJ2
    obtain ⟨j, A, rf, hj, rfl, rfl, hrf, HA, HK, HB, HJ⟩ := hrel
    by_cases hlt : j < N
    · have hjy : j < ys.length := by rw [HN.out]; exact hlt
      have hji : j < (icS ys).length := by unfold icS; simpa using hjy
      have hjt : j < (runD newD (icS ys)).t.length := by rw [run_tlen]; show j < 0 + _; omega
      obtain ⟨g, off, rfl, hc⟩ := (HRY.out.keep HB.out (Nat.le_refl _)) (by omega)
      obtain ⟨c0, c1, c2⟩ := hc j hjt
      obtain ⟨x, y, z, hx⟩ : ∃ x y z, (runD newD (icS ys)).t[j] = ((x, y, z) : Tk3) := ⟨_, _, _, rfl⟩
      have hy : y = alJ (icS ys) (j + 1) := by
        have h1 := tick_at hji hjt
        rw [hx] at h1
        rw [alJ_succ hji]
        exact congrArg (fun t : Tk3 => t.2.1) h1
      rw [hx] at c0 c1 c2
      dsimp only at c0 c1 c2
      obtain ⟨gz, oz, rfl, hz⟩ := (HRZ.out.keep HB.out (Nat.le_refl _)) (by simp; omega)
      obtain ⟨z0, z1, z2⟩ := hz j (by simp; omega)
      have hxo : (inJ ys j).ok := by rw [inJ_at hjy]; exact HOK.out _ (List.getElem_mem hjy)
      have hzt : (ys.map Inp.t3)[j]'(by simp; omega) = (inJ ys j).t3 := by rw [inJ_at hjy]; simp
      rw [hzt] at z0 z1 z2
      obtain ⟨q, hq⟩ : ∃ q, inJ ys j = q := ⟨_, rfl⟩
      rw [hq] at z0 z1 z2 hxo
      have z0' : wr.cell? ⟨gz, oz + j * 3, none⟩ = some (.int .i64 q.i.b) := z0
      have z1' : wr.cell? ⟨gz, oz + j * 3 + 1, none⟩ = some (.string q.K) := z1
      have z2' : wr.cell? ⟨gz, oz + j * 3 + 2, none⟩ = some (.string q.L) := z2
      have hgl : gz < wr.heap.size := World.block_lt_of_cell? wr ⟨gz, oz + j * 3, none⟩ z0'
      have hg0 : gz < w0.heap.size := by
        obtain ⟨g', o', e, hh⟩ := HRZ.out (by simp; omega)
        cases e
        exact World.block_lt_of_cell? w0 ⟨gz, oz + j * 3, none⟩ (hh j (by simp; omega)).1
      obtain ⟨W1, hW1⟩ : ∃ W1, wr.alloc (.cells #[.int .i64 x, .int .i64 y, .int .i64 z] 41) = W1 := ⟨_, rfl⟩
      have hba : Below wr.heap.size wr W1 := by rw [← hW1]; exact alM _ _
      have HX1 : Hid (W1.heap[wr.heap.size]? = some (.cells #[.int .i64 x, .int .i64 y, .int .i64 z] 41)) := by rw [← hW1]; exact heap_new wr _
      have HK1 : Hid (W1.heap[k]? = some (hrO g1 g3 (atD (icS ys) j).m rf)) := row_on HK.out hba
      have HB1 : Hid (Below w0.heap.size w0 W1) := bel_on (Nat.le_refl _) HB.out hba
      have hkr : k < wr.heap.size := row_lt HK.out
      have HJ1 : Hid (J j W1) := HJJ.out j _ _ HJ.out (hba.mono (by omega))
      have HZ1 : Hid (∀ W2, Below w0.heap.size w0 W2 → W2.cell? ⟨gz, oz + j * 3, none⟩ = some (.int .i64 q.i.b) ∧ W2.cell? ⟨gz, oz + j * 3 + 1, none⟩ = some (.string q.K) ∧ W2.cell? ⟨gz, oz + j * 3 + 2, none⟩ = some (.string q.L)) := (fun W2 hb => by
        obtain ⟨g', o', e, hh⟩ := HRZ.out (by simp; omega)
        cases e
        obtain ⟨y0, y1, y2⟩ := hh j (by simp; omega)
        rw [hzt, hq] at y0 y1 y2
        exact ⟨(hb.cell (p := ⟨gz, oz + j * 3, none⟩) hg0).trans y0, (hb.cell (p := ⟨gz, oz + j * 3 + 1, none⟩) hg0).trans y1, (hb.cell (p := ⟨gz, oz + j * 3 + 2, none⟩) hg0).trans y2⟩)
      have HY : Hid (y = alJ (icS ys) (j + 1)) := hy
      have HQ : Hid (inJ ys j = q) := hq
      have HJI : Hid (j < (icS ys).length) := hji
      have i0 : (0 : Int) ≤ (j : Int) := by omega
      have i1 : (j : Int) < (N : Int) := by omega
      clear hc hz z0 z1 z2 z0' z1' z2' hx hy hzt hq hba HK HB HJ hjt hji hjy hgl
      gi_upto_region 5 with fail
      (try rw [hW1])
      clear hW1 c0 c1 c2
      obtain ⟨z0, z1, z2⟩ := HZ1.out W1 HB1.out
      have kbi : W1.cell? ⟨Bi, 0, none⟩ = some (.slice (some ⟨gz, oz, none⟩) N ci) := (HB1.out.cell (p := ⟨Bi, 0, none⟩) hBil).trans HBi.out
      gi_wp2_with fail
      refine ⟨trivial, fun _ => by omega, ?_⟩
      obtain ⟨qo, hqo⟩ : ∃ n, (osJ (icS ys) j q.i).length = n := ⟨_, rfl⟩
      have hqb : qo ≤ 1000 := by
        have e1 := allM_len q.i.ks (atD (icS ys) j).m
        have e2 := lo_len hxo.ic
        have e3 := hxo.ic.2.1
        rw [← hqo]
        unfold osJ
        rw [List.length_append]
        omega
      have CO := ordersI k newP (.slice (some ⟨g1, 0, none⟩) 0 0) 0 (atD (icS ys) j).m (.slice (some ⟨g3, 0, none⟩) 0 0) rf q hxo (atD_ok (icS_ok HOK.out) j).m (allM (atD (icS ys) j).m q.i.ks).1 (allM (atD (icS ys) j).m q.i.ks).2 rfl (osJ (icS ys) j q.i) qo rfl hqo hrf.1 (by omega) W1 (Q.tab_below HT.out HB1.out) HK1.out
      refine (callsIn_wide.2 CO).mono ?_
      rintro e w3 ⟨Ao, co, rfl, hoa, hrow3, hgr3⟩
      have hkl : k ≠ l := by omega
      have HX3 : Hid (w3.heap[wr.heap.size]? = some (.cells #[.int .i64 x, .int .i64 y, .int .i64 z] 41)) := (hgr3.block _ (row_lt HX1.out) (fun e => by cases e; omega)).trans HX1.out
      have HK3 : Hid (w3.heap[k]? = some (hrO g1 g3 (atD (icS ys) (j + 1)).m (rf + q.i.lr))) := by
        show _ = _
        rw [atD_succ HJI.out, icS_at (by have := HJI.out; unfold icS at this; simpa using this), HQ.out]
        exact hrow3
      have HB3 : Hid (Below w0.heap.size w0 w3) := HB1.out.trans (grown_below' hgr3 (by omega) HB1.out.size)
      have HJ3 : Hid (J j w3) := HJJ.out j _ _ HJ1.out (grown_below' hgr3 hkW (by have := row_lt HK1.out; omega))
      have HO3 : Hid (RdQ w3 Ao (osJ (icS ys) j q.i)) := hoa.own.rd
      have hrf3 : 0 ≤ rf + q.i.lr ∧ rf + q.i.lr ≤ ((j + 1 : Nat) : Int) := by have := hxo.ic.2.2.2.1; omega
      have hsz3 : wr.heap.size < w3.heap.size := row_lt HX3.out
      clear CO hoa hrow3 hgr3 HX1 HK1 HB1 HJ1 z0 z1 z2 kbi
      gi_wp2_with fail
      refine ⟨trivial, fun _ => by omega, ?_⟩
      refine (callsIn_wide.2 (containsO Ao (osJ (icS ys) j q.i) qo co hqo hqb 5 0 0 0 (snJ (icS ys) j q.i) (snJ_mem hxo.ic) w3 HO3.out)).mono ?_
      rintro e w4 ⟨rfl, hb4⟩
      have HX4 : Hid (w4.heap[wr.heap.size]? = some (.cells #[.int .i64 x, .int .i64 y, .int .i64 z] 41)) := row_on HX3.out hb4
      have HK4 : Hid (w4.heap[k]? = some (hrO g1 g3 (atD (icS ys) (j + 1)).m (rf + q.i.lr))) := row_on HK3.out hb4
      have HB4 : Hid (Below w0.heap.size w0 w4) := bel_on (Nat.le_refl _) HB3.out hb4
      have HJ4 : Hid (J j w4) := HJJ.out j _ _ HJ3.out (hb4.mono (by have := row_lt HK3.out; omega))
      clear hb4 HX3 HK3 HB3 HJ3 HO3 hqo
      obtain ⟨sn, hsn⟩ : ∃ s, snJ (icS ys) j q.i = s := ⟨_, rfl⟩
      have HSN : Hid (snJ (icS ys) j q.i = sn) := hsn
      rw [hsn]
      clear hsn
      gi_upto_region 6 with fail
      have kx := (boxY_cells HX4.out).1.2.1
      obtain ⟨z0, z1, z2⟩ := HZ1.out w4 HB4.out
      have kbi : w4.cell? ⟨Bi, 0, none⟩ = some (.slice (some ⟨gz, oz, none⟩) N ci) := (HB4.out.cell (p := ⟨Bi, 0, none⟩) hBil).trans HBi.out
      have HJ5 : Hid (J j w4.drew) := HJJ.out j _ _ HJ4.out ((Below.refl _ _).drew)
      have HX5 : Hid (w4.drew.heap[wr.heap.size]? = some (.cells #[.int .i64 x, .int .i64 y, .int .i64 z] 41)) := HX4.out
      have HK5 : Hid (w4.drew.heap[k]? = some (hrO g1 g3 (atD (icS ys) (j + 1)).m (rf + q.i.lr))) := HK4.out
      have HB5 : Hid (Below w0.heap.size w0 w4.drew) := HB4.out.drew
      have kx5 : w4.drew.cell? ⟨wr.heap.size, 1, none⟩ = some (.int .i64 y) := kx
      have kb5 : w4.drew.cell? ⟨Bi, 0, none⟩ = some (.slice (some ⟨gz, oz, none⟩) N ci) := kbi
      have z05 : w4.drew.cell? ⟨gz, oz + j * 3, none⟩ = some (.int .i64 q.i.b) := z0
      refine wpIn_region_any (by kernel_rfl) ?_
      show wpAnyIn _ _ _ _ _ _ _ _ _ w4.drew
      clear kx kbi z0 z1 z2 HX4 HK4 HB4 HJ4 HZ1
      generalize w4.drew = v0 at *
      obtain ⟨fn, tmps, assign, body, hy, hR⟩ := hY j v0 hlt HJ5.out
      have hen : encJ ys j = #[.agg #[.int .i64 y, .int .i64 q.i.b, .int .i64 A, .bool sn]] := by
        unfold encJ
        rw [HQ.out, HSN.out, ← HY.out, ← HA.out]
      rw [hen] at hy
      clear hen
      refine wpAnyIn_take (i := 0) (v := ?_) rfl rfl (by kernel_rfl) (by kernel_rfl) (by kernel_rfl) (fun _ _ _ h => h) ⟨Or.inl ⟨by rfl, ?_⟩, fun _ => rfl⟩ ?_
      rotate_left
      · intro w_; go_simp <;> with_reducible rfl
      try simp only [Act.put, List.setIfInBounds_toArray, List.set_cons_zero, List.set_cons_succ, List.getElem_toArray, List.getElem_cons_zero, List.getElem_cons_succ]
      refine wpAnyIn_take (i := 1) (v := ?_) rfl rfl (by kernel_rfl) (by kernel_rfl) (by kernel_rfl) (fun _ _ _ h => h) ⟨Or.inl ⟨by rfl, ?_⟩, fun _ => rfl⟩ ?_
      rotate_left
      · intro w_; go_simp <;> with_reducible rfl
      try simp only [Act.put, List.setIfInBounds_toArray, List.set_cons_zero, List.set_cons_succ, List.getElem_toArray, List.getElem_cons_zero, List.getElem_cons_succ]
      refine wpAnyIn_take (i := 4) (v := ?_) rfl rfl (by kernel_rfl) (by kernel_rfl) (by kernel_rfl) (fun _ _ _ h => h) ⟨Or.inl ⟨by rfl, ?_⟩, fun _ => rfl⟩ ?_
      rotate_left
      · intro w_; go_simp <;> with_reducible rfl
      try simp only [Act.put, List.setIfInBounds_toArray, List.set_cons_zero, List.set_cons_succ, List.getElem_toArray, List.getElem_cons_zero, List.getElem_cons_succ]
      refine wpAnyIn_take (i := 8) (v := ?_) rfl rfl (by kernel_rfl) (by kernel_rfl) (by kernel_rfl) (fun _ _ _ h => h) ⟨Or.inl ⟨by rfl, ?_⟩, fun _ => rfl⟩ ?_
      rotate_left
      · intro w_; go_simp <;> with_reducible rfl
      try simp only [Act.put, List.setIfInBounds_toArray, List.set_cons_zero, List.set_cons_succ, List.getElem_toArray, List.getElem_cons_zero, List.getElem_cons_succ]
      refine wpAnyIn_take (i := 9) (v := ?_) rfl rfl (by kernel_rfl) (by kernel_rfl) (by kernel_rfl) (fun _ _ _ h => h) ⟨Or.inl ⟨by rfl, ?_⟩, fun _ => rfl⟩ ?_
      rotate_left
      · intro w_; go_simp <;> with_reducible rfl
      try simp only [Act.put, List.setIfInBounds_toArray, List.set_cons_zero, List.set_cons_succ, List.getElem_toArray, List.getElem_cons_zero, List.getElem_cons_succ]
      refine wpAnyIn_ready (rs := [2, 3]) (by kernel_rfl) (by simp) ?_
      refine AllReadyIn.cons rfl (fun K hK => ?_) (AllReadyIn.cons rfl (fun K hK => ?_) AllReadyIn.nil)
      · go_simp
        refine hK _ _ ?_
        clear hK K
        try simp only [Act.put, List.setIfInBounds_toArray, List.set_cons_zero, List.set_cons_succ, List.getElem_toArray, List.getElem_cons_zero, List.getElem_cons_succ]
        refine wpAnyIn_ready (rs := [3]) (by kernel_rfl) (by simp) ?_
        refine AllReadyIn.cons rfl (fun K hK => ?_) AllReadyIn.nil
        go_simp
        refine hK _ _ ?_
        clear hK K
        try simp only [Act.put, List.setIfInBounds_toArray, List.set_cons_zero, List.set_cons_succ, List.getElem_toArray, List.getElem_cons_zero, List.getElem_cons_succ]
        refine wpAnyIn_take (i := 5) (v := ?_) rfl rfl (by kernel_rfl) (by kernel_rfl) (by kernel_rfl) (fun _ _ _ h => h) ⟨Or.inl ⟨by rfl, ?_⟩, fun _ => rfl⟩ ?_
        rotate_left
        · intro w_; go_simp <;> with_reducible rfl
        try simp only [Act.put, List.setIfInBounds_toArray, List.set_cons_zero, List.set_cons_succ, List.getElem_toArray, List.getElem_cons_zero, List.getElem_cons_succ]
        refine wpAnyIn_take (i := 6) (v := ?_) rfl rfl (by kernel_rfl) (by kernel_rfl) (by kernel_rfl) (fun _ _ _ h => h) ⟨Or.inl ⟨by rfl, ?_⟩, fun _ => rfl⟩ ?_
        rotate_left
        · intro w_; go_simp <;> with_reducible rfl
        try simp only [Act.put, List.setIfInBounds_toArray, List.set_cons_zero, List.set_cons_succ, List.getElem_toArray, List.getElem_cons_zero, List.getElem_cons_succ]
        refine wpAnyIn_ready (rs := [7]) (by kernel_rfl) (by simp) ?_
        refine AllReadyIn.cons rfl (fun K hK => ?_) AllReadyIn.nil
        go_simp
        refine hK _ _ ?_
        clear hK K
        try simp only [Act.put, List.setIfInBounds_toArray, List.set_cons_zero, List.set_cons_succ, List.getElem_toArray, List.getElem_cons_zero, List.getElem_cons_succ]
        refine wpAnyIn_take (i := 10) (v := ?_) rfl rfl (by kernel_rfl) (by kernel_rfl) (by kernel_rfl) (fun _ _ _ h => h) ⟨Or.inl ⟨by rfl, ?_⟩, fun _ => rfl⟩ ?_
        rotate_left
        · intro w_; go_simp <;> with_reducible rfl
        try simp only [Act.put, List.setIfInBounds_toArray, List.set_cons_zero, List.set_cons_succ, List.getElem_toArray, List.getElem_cons_zero, List.getElem_cons_succ]
        refine wpAnyIn_ready (rs := [11]) (by kernel_rfl) (by simp) ?_
        refine AllReadyIn.cons rfl (fun K hK => ?_) AllReadyIn.nil
        go_simp
        refine ⟨fun _ => by omega, hR.mono ?_⟩
        rintro e W3 ⟨rfl, hJ6, hg3⟩
        refine hK _ _ ?_
        clear hK K
        try simp only [Act.put, List.setIfInBounds_toArray, List.set_cons_zero, List.set_cons_succ, List.getElem_toArray, List.getElem_cons_zero, List.getElem_cons_succ]
        refine wpAnyIn_take (i := 12) (v := ?_) rfl rfl (by kernel_rfl) (by kernel_rfl) (by kernel_rfl) (fun _ _ _ h => h) ⟨Or.inl ⟨by rfl, ?_⟩, fun _ => rfl⟩ ?_
        rotate_left
        · intro w_; go_simp <;> with_reducible rfl
        try simp only [Act.put, List.setIfInBounds_toArray, List.set_cons_zero, List.set_cons_succ, List.getElem_toArray, List.getElem_cons_zero, List.getElem_cons_succ]
        refine wpAnyIn_done (by kernel_rfl) ?_ _
        have hkl : k ≠ l := by omega
        have hrl : wr.heap.size ≠ l := by omega
        have HX6 : Hid (W3.heap[wr.heap.size]? = some (.cells #[.int .i64 x, .int .i64 y, .int .i64 z] 41)) := (hg3.block _ (row_lt HX5.out) (fun e => by cases e; exact hrl rfl)).trans HX5.out
        have HK6 : Hid (W3.heap[k]? = some (hrO g1 g3 (atD (icS ys) (j + 1)).m (rf + q.i.lr))) := (hg3.block _ (row_lt HK5.out) (fun e => by cases e; exact hkl rfl)).trans HK5.out
        have HB6 : Hid (Below w0.heap.size w0 W3) := HB5.out.trans (grown_below' hg3 hl0 HB5.out.size)
        have HJ6 : Hid (J (j + 1) W3) := hJ6
        have kx6 := (boxY_cells HX6.out).1.2.1
        clear hJ6 hg3 HX5 HK5 HB5 HJ5 hkl hrl kx5 kb5 z05 hy hR
        gi_wp2
        go_roundw
        case rel => exact ⟨j + 1, y, rf + q.i.lr, by omega, rfl, by go_num, hrf3, HY, HK6, HB6, HJ6⟩
        case measure => simp [intOf]; omega
      · go_simp
        refine hK _ _ ?_
        clear hK K
        try simp only [Act.put, List.setIfInBounds_toArray, List.set_cons_zero, List.set_cons_succ, List.getElem_toArray, List.getElem_cons_zero, List.getElem_cons_succ]
        refine wpAnyIn_take (i := 5) (v := ?_) rfl rfl (by kernel_rfl) (by kernel_rfl) (by kernel_rfl) (fun _ _ _ h => h) ⟨Or.inl ⟨by rfl, ?_⟩, fun _ => rfl⟩ ?_
        rotate_left
        · intro w_; go_simp <;> with_reducible rfl
        try simp only [Act.put, List.setIfInBounds_toArray, List.set_cons_zero, List.set_cons_succ, List.getElem_toArray, List.getElem_cons_zero, List.getElem_cons_succ]
        refine wpAnyIn_take (i := 6) (v := ?_) rfl rfl (by kernel_rfl) (by kernel_rfl) (by kernel_rfl) (fun _ _ _ h => h) ⟨Or.inl ⟨by rfl, ?_⟩, fun _ => rfl⟩ ?_
        rotate_left
        · intro w_; go_simp <;> with_reducible rfl
        try simp only [Act.put, List.setIfInBounds_toArray, List.set_cons_zero, List.set_cons_succ, List.getElem_toArray, List.getElem_cons_zero, List.getElem_cons_succ]
        refine wpAnyIn_ready (rs := [2, 7]) (by kernel_rfl) (by simp) ?_
        refine AllReadyIn.cons rfl (fun K hK => ?_) (AllReadyIn.cons rfl (fun K hK => ?_) AllReadyIn.nil)
        · go_simp
          refine hK _ _ ?_
          clear hK K
          try simp only [Act.put, List.setIfInBounds_toArray, List.set_cons_zero, List.set_cons_succ, List.getElem_toArray, List.getElem_cons_zero, List.getElem_cons_succ]
          refine wpAnyIn_ready (rs := [7]) (by kernel_rfl) (by simp) ?_
          refine AllReadyIn.cons rfl (fun K hK => ?_) AllReadyIn.nil
          go_simp
          refine hK _ _ ?_
          clear hK K
          try simp only [Act.put, List.setIfInBounds_toArray, List.set_cons_zero, List.set_cons_succ, List.getElem_toArray, List.getElem_cons_zero, List.getElem_cons_succ]
          refine wpAnyIn_take (i := 10) (v := ?_) rfl rfl (by kernel_rfl) (by kernel_rfl) (by kernel_rfl) (fun _ _ _ h => h) ⟨Or.inl ⟨by rfl, ?_⟩, fun _ => rfl⟩ ?_
          rotate_left
          · intro w_; go_simp <;> with_reducible rfl
          try simp only [Act.put, List.setIfInBounds_toArray, List.set_cons_zero, List.set_cons_succ, List.getElem_toArray, List.getElem_cons_zero, List.getElem_cons_succ]
          refine wpAnyIn_ready (rs := [11]) (by kernel_rfl) (by simp) ?_
          refine AllReadyIn.cons rfl (fun K hK => ?_) AllReadyIn.nil
          go_simp
          refine ⟨fun _ => by omega, hR.mono ?_⟩
          rintro e W3 ⟨rfl, hJ6, hg3⟩
          refine hK _ _ ?_
          clear hK K
          try simp only [Act.put, List.setIfInBounds_toArray, List.set_cons_zero, List.set_cons_succ, List.getElem_toArray, List.getElem_cons_zero, List.getElem_cons_succ]
          refine wpAnyIn_take (i := 12) (v := ?_) rfl rfl (by kernel_rfl) (by kernel_rfl) (by kernel_rfl) (fun _ _ _ h => h) ⟨Or.inl ⟨by rfl, ?_⟩, fun _ => rfl⟩ ?_
          rotate_left
          · intro w_; go_simp <;> with_reducible rfl
          try simp only [Act.put, List.setIfInBounds_toArray, List.set_cons_zero, List.set_cons_succ, List.getElem_toArray, List.getElem_cons_zero, List.getElem_cons_succ]
          refine wpAnyIn_done (by kernel_rfl) ?_ _
          have hkl : k ≠ l := by omega
          have hrl : wr.heap.size ≠ l := by omega
          have HX6 : Hid (W3.heap[wr.heap.size]? = some (.cells #[.int .i64 x, .int .i64 y, .int .i64 z] 41)) := (hg3.block _ (row_lt HX5.out) (fun e => by cases e; exact hrl rfl)).trans HX5.out
          have HK6 : Hid (W3.heap[k]? = some (hrO g1 g3 (atD (icS ys) (j + 1)).m (rf + q.i.lr))) := (hg3.block _ (row_lt HK5.out) (fun e => by cases e; exact hkl rfl)).trans HK5.out
          have HB6 : Hid (Below w0.heap.size w0 W3) := HB5.out.trans (grown_below' hg3 hl0 HB5.out.size)
          have HJ6 : Hid (J (j + 1) W3) := hJ6
          have kx6 := (boxY_cells HX6.out).1.2.1
          clear hJ6 hg3 HX5 HK5 HB5 HJ5 hkl hrl kx5 kb5 z05 hy hR
          gi_wp2
          go_roundw
          case rel => exact ⟨j + 1, y, rf + q.i.lr, by omega, rfl, by go_num, hrf3, HY, HK6, HB6, HJ6⟩
          case measure => simp [intOf]; omega
        · go_simp
          refine hK _ _ ?_
          clear hK K
          try simp only [Act.put, List.setIfInBounds_toArray, List.set_cons_zero, List.set_cons_succ, List.getElem_toArray, List.getElem_cons_zero, List.getElem_cons_succ]
          refine wpAnyIn_ready (rs := [2]) (by kernel_rfl) (by simp) ?_
          refine AllReadyIn.cons rfl (fun K hK => ?_) AllReadyIn.nil
          go_simp
          refine hK _ _ ?_
          clear hK K
          try simp only [Act.put, List.setIfInBounds_toArray, List.set_cons_zero, List.set_cons_succ, List.getElem_toArray, List.getElem_cons_zero, List.getElem_cons_succ]
          refine wpAnyIn_take (i := 10) (v := ?_) rfl rfl (by kernel_rfl) (by kernel_rfl) (by kernel_rfl) (fun _ _ _ h => h) ⟨Or.inl ⟨by rfl, ?_⟩, fun _ => rfl⟩ ?_
          rotate_left
          · intro w_; go_simp <;> with_reducible rfl
          try simp only [Act.put, List.setIfInBounds_toArray, List.set_cons_zero, List.set_cons_succ, List.getElem_toArray, List.getElem_cons_zero, List.getElem_cons_succ]
          refine wpAnyIn_ready (rs := [11]) (by kernel_rfl) (by simp) ?_
          refine AllReadyIn.cons rfl (fun K hK => ?_) AllReadyIn.nil
          go_simp
          refine ⟨fun _ => by omega, hR.mono ?_⟩
          rintro e W3 ⟨rfl, hJ6, hg3⟩
          refine hK _ _ ?_
          clear hK K
          try simp only [Act.put, List.setIfInBounds_toArray, List.set_cons_zero, List.set_cons_succ, List.getElem_toArray, List.getElem_cons_zero, List.getElem_cons_succ]
          refine wpAnyIn_take (i := 12) (v := ?_) rfl rfl (by kernel_rfl) (by kernel_rfl) (by kernel_rfl) (fun _ _ _ h => h) ⟨Or.inl ⟨by rfl, ?_⟩, fun _ => rfl⟩ ?_
          rotate_left
          · intro w_; go_simp <;> with_reducible rfl
          try simp only [Act.put, List.setIfInBounds_toArray, List.set_cons_zero, List.set_cons_succ, List.getElem_toArray, List.getElem_cons_zero, List.getElem_cons_succ]
          refine wpAnyIn_done (by kernel_rfl) ?_ _
          have hkl : k ≠ l := by omega
          have hrl : wr.heap.size ≠ l := by omega
          have HX6 : Hid (W3.heap[wr.heap.size]? = some (.cells #[.int .i64 x, .int .i64 y, .int .i64 z] 41)) := (hg3.block _ (row_lt HX5.out) (fun e => by cases e; exact hrl rfl)).trans HX5.out
          have HK6 : Hid (W3.heap[k]? = some (hrO g1 g3 (atD (icS ys) (j + 1)).m (rf + q.i.lr))) := (hg3.block _ (row_lt HK5.out) (fun e => by cases e; exact hkl rfl)).trans HK5.out
          have HB6 : Hid (Below w0.heap.size w0 W3) := HB5.out.trans (grown_below' hg3 hl0 HB5.out.size)
          have HJ6 : Hid (J (j + 1) W3) := hJ6
          have kx6 := (boxY_cells HX6.out).1.2.1
          clear hJ6 hg3 HX5 HK5 HB5 HJ5 hkl hrl kx5 kb5 z05 hy hR
          gi_wp2
          go_roundw
          case rel => exact ⟨j + 1, y, rf + q.i.lr, by omega, rfl, by go_num, hrf3, HY, HK6, HB6, HJ6⟩
          case measure => simp [intOf]; omega
    · obtain rfl : j = N := by omega
      gi_wp2
      go_end0
      exact ⟨⟨_, rfl⟩, HJ.out⟩
end Go.Proofs.YtdifmjcghaoilaaGreatDoor

namespace Go.Proofs.YtdifmjcghaoilaaGreatDoor
open Go.ChangeShapes Go.WideShapes Go.ChangeAt Go.RowKit Go.PlainAid Go.Shelf
set_option linter.unusedVariables false
set_option linter.unusedSimpArgs false

attribute [local go_sem] Oper.semAt_some

/-- where the span from j on ends -/
def spE (len j : Nat) : Nat := min (j + 10) len
/-- the span from j on -/
def spV (g off len cap j : Nat) : Value := .slice (some ⟨g, off + j * 3, none⟩) (spE len j - j) (cap - j)
set_option maxRecDepth 100000 in
set_option maxHeartbeats 2000000 in
theorem spans1_in (F : Fence) (n : Nat) (h7 : F.fn 49) (hro : F.round = none) (hn : 1 ≤ n) (l Bs n₀ b off len cap : Nat) (hlc : len ≤ cap) (hl150 : len ≤ 150) (J Jx : List Nat → World → Prop)
    (hY : ∀ pre x W, J pre W → pre.length < len → YieldAt F (n - 1) Tryz.prog l #[spV b off len cap x] W fun e W' =>
      (e = .returned (.bool true) ∧ J (pre ++ [x]) W' ∧ Below n₀ W W') ∨ (e = .returned (.bool false) ∧ Jx (pre ++ [x]) W'))
    (W : World) (hBn : Bs < n₀) (hBs : W.cell? ⟨Bs, 0, none⟩ = some (.slice (some ⟨b, off, none⟩) len cap)) (h0 : J [] W) :
    CallsIn F n Tryz.prog 49 #[.func (.yield l) #[] #[], .pointer (some ⟨Bs, 0, none⟩)] W fun e W' => (∃ v, e = .returned v) ∧
      ((∃ ys, ys = List.range len ∧ J ys W') ∨ (∃ pre, (∃ k, k ≤ len ∧ pre = List.range k) ∧ Jx pre W')) := by
  refine callsIn_of_wp Tryz.func49 rfl h7 ?_ hro
  simp only [Tryz.ntmps49, List.size_toArray, List.length_cons, List.length_nil, Nat.reduceAdd, Nat.reduceSub, Array.replicate_succ, Array.replicate_zero, List.push_toArray, List.append_toArray, List.nil_append, List.cons_append]
  gi_wp2
  gi_loopw [6] (fun i wr => ∃ k : Nat, k ≤ len ∧ i = .int .i64 k ∧ J (List.range k) wr ∧ Below n₀ W wr)
    (fun i _ => len - (intOf i).toNat)
  case atStart => exact ⟨0, Nat.zero_le _, rfl, h0, Below.refl _ _⟩
  case round =>
    obtain ⟨k, hk, rfl, hJs, hnx⟩ := hrel
    have hBs' : wr.cell? ⟨Bs, 0, none⟩ = some (.slice (some ⟨b, off, none⟩) len cap) := (hnx.cell (p := ⟨Bs, 0, none⟩) hBn).trans hBs
    by_cases hlt : k < len
    · obtain ⟨fn, tmps, assign, body, hy, hR⟩ := hY _ k wr hJs (by rw [List.length_range]; exact hlt)
      obtain ⟨m, hm⟩ : ∃ m, spE len k = m := ⟨_, rfl⟩
      have hmk : k < m ∧ m ≤ len := by rw [← hm]; unfold spE; omega
      have hmm : min ((k : Int) + 10) (len : Int) = (m : Int) := by rw [← hm]; unfold spE; omega
      have q0 : IntKind.i64.wrap ((k : Int) + 10) = (k : Int) + 10 := wrap_in (by omega) (by omega)
      unfold spV at hy
      rw [hm] at hy
      clear hm
      have HJ : Hid (J (List.range k) wr) := hJs
      have HN : Hid (Below n₀ W wr) := hnx
      clear hJs hnx hBs
      gi_wp2
      refine hR.mono ?_
      rintro e W3 (⟨rfl, hJ3, hk3⟩ | ⟨rfl, hJx3⟩)
      · gi_wp2
        go_roundw
        case rel => exact ⟨k + 1, by omega, by simp, by rw [List.range_succ]; exact hJ3, HN.out.trans hk3⟩
        case measure => simp [intOf]; omega
      · gi_wp2
        refine bodyPost_ret (results_none rfl _ _ _) rfl ?_
        exact ⟨⟨_, rfl⟩, .inr ⟨List.range (k + 1), ⟨k + 1, by omega, rfl⟩, by rw [List.range_succ]; exact hJx3⟩⟩
    · obtain rfl : k = len := by omega
      gi_wp2
      go_end0
      exact ⟨⟨_, rfl⟩, .inl ⟨_, rfl, hJs⟩⟩
set_option maxRecDepth 100000 in
set_option maxHeartbeats 1000000 in
theorem spans1_nil_in (F : Fence) (n : Nat) (h7 : F.fn 49) (hro : F.round = none) (l Bs cap : Nat) (a : Option Addr) (J : List Nat → World → Prop) (W : World) (hBs : W.cell? ⟨Bs, 0, none⟩ = some (.slice a 0 cap)) (h0 : J [] W) :
    CallsIn F n Tryz.prog 49 #[.func (.yield l) #[] #[], .pointer (some ⟨Bs, 0, none⟩)] W fun e W' => (∃ v, e = .returned v) ∧ J [] W' := by
  refine callsIn_of_wp Tryz.func49 rfl h7 ?_ hro
  simp only [Tryz.ntmps49, List.size_toArray, List.length_cons, List.length_nil, Nat.reduceAdd, Nat.reduceSub, Array.replicate_succ, Array.replicate_zero, List.push_toArray, List.append_toArray, List.nil_append, List.cons_append]
  gi_wp2
  gi_loopw [6] (fun i wr => i = .int .i64 0 ∧ J [] wr) (fun _ _ => 0)
  case atStart => exact ⟨rfl, h0⟩
  case round =>
    obtain ⟨rfl, hJs⟩ := hrel
    gi_wp2
    go_end0
    exact ⟨⟨_, rfl⟩, hJs⟩
set_option maxRecDepth 100000 in
set_option maxHeartbeats 1000000 in
theorem spansOfI (a : Option Addr) (len cap : Nat) (w : World) :
    Calls Tryz.prog 20 #[.slice a len cap] w fun e w' => e = .returned (.func (.func 49) #[] #[.pointer (some ⟨w.heap.size, 0, none⟩)]) ∧ w' = w.alloc (.cells #[.slice a len cap] 33) := by
  go_enter Tryz.func20, Tryz.ntmps20
  go_wp2
  go_ret
  exact ⟨rfl, rfl⟩
/-- what a span's value is, where the list lies at a -/
def spW (a : Option Addr) (len cap j : Nat) : Value := match a with
  | some ⟨g, off, none⟩ => spV g off len cap j
  | _ => .slice none 0 0
theorem spans_stops (F : Fence) (n : Nat) (h7 : F.fn 49) (hro : F.round = none) (hn : 1 ≤ n) (Bs n₀ : Nat) (a : Option Addr) (len cap : Nat) (hlc : len ≤ cap) (hl150 : len ≤ 150) (w : World) (hBs : Bs < n₀) (hn₀ : n₀ ≤ w.heap.size)
    (hc : w.cell? ⟨Bs, 0, none⟩ = some (.slice a len cap)) (hI : 0 < len → ∃ g off, a = some ⟨g, off, none⟩) :
    SeqStopsK F n Tryz.prog 49 #[.pointer (some ⟨Bs, 0, none⟩)] (fun j : Nat => #[spW a len cap j]) (Below n₀) (fun ys => ys = List.range len) (fun pre => ∃ k, k ≤ len ∧ pre = List.range k) len w := fun l J Jx W hW _ _ hY h0 => by
  have hc' := (hW.cell (p := ⟨Bs, 0, none⟩) (Nat.lt_of_lt_of_le hBs hn₀)).trans hc
  by_cases hp : 0 < len
  · obtain ⟨b, off, rfl⟩ := hI hp
    exact spans1_in F n h7 hro hn l Bs n₀ b off len cap hlc hl150 J Jx hY W hBs hc' h0
  · obtain rfl : len = 0 := by omega
    exact (spans1_nil_in F n h7 hro l Bs cap a J W hc' h0).mono fun e W' ⟨he, hj⟩ => ⟨he, .inl ⟨_, rfl, hj⟩⟩
set_option maxRecDepth 100000 in
set_option maxHeartbeats 1000000 in
theorem mostI (a : Option Addr) (l : List Tk3) (n cap : Nat) (hl : l.length = n) (hn : n ≤ 150) (hP : ∀ x ∈ l, 0 ≤ x.1 ∧ x.1 ≤ 30) (hs : sumT l ≤ 30) (w : World) (hr : RdY w a l) :
    Calls Tryz.prog 21 #[.slice a n cap] w fun e w' => e = .returned (.bool true) ∧ Below w.heap.size w w' := by
  go_enter Tryz.func21, Tryz.ntmps21
  go_wp2_with fail
  refine (totalI a l n cap hl hn hP _ hr).mono ?_
  rintro e w2 ⟨rfl, hb2⟩
  have HB : Hid (Below w.heap.size w w2) := hb2
  clear hb2
  generalize sumT l = S at *
  go_wp2
  go_ret
  exact ⟨by simp [hs], HB.out⟩
abbrev fnS (Bs : Nat) : Value := .func (.func 49) #[] #[.pointer (some ⟨Bs, 0, none⟩)]
abbrev fnM : Value := .func (.func 21) #[] #[]
/-- the span from j on -/
def spL (l : List Tk3) (j : Nat) : List Tk3 := (l.drop j).take 10
theorem rdY_span {w : World} {g off : Nat} {l : List Tk3} (h : RdY w (some ⟨g, off, none⟩) l) {j : Nat} (hj : j < l.length) : RdY w (some ⟨g, off + j * 3, none⟩) (spL l j) := fun h0 => by
  obtain ⟨g', off', e, hc⟩ := h (by omega)
  cases e
  refine ⟨g, off + j * 3, rfl, fun i hi => ?_⟩
  have hi2 : j + i < l.length := by unfold spL at hi; simp at hi; omega
  have e1 : (spL l j)[i] = l[j + i] := by simp [spL]
  have := hc (j + i) hi2
  rw [e1, show off + j * 3 + i * 3 = off + (j + i) * 3 by omega]
  exact this
theorem spL_len (l : List Tk3) (j : Nat) (hj : j < l.length) : (spL l j).length = spE l.length j - j := by unfold spL spE; simp; omega
theorem spL_none {l : List Tk3} {j : Nat} (h : l.length ≤ j) : spL l j = [] := by unfold spL; rw [List.drop_eq_nil_of_le h]; rfl
theorem spW_ex (a : Option Addr) (l : List Tk3) (len cap : Nat) (hl : l.length = len) (hI : 0 < len → ∃ g off, a = some ⟨g, off, none⟩) (j : Nat) : ∃ a' n' c', spW a len cap j = .slice a' n' c' ∧ (spL l j).length = n' ∧ n' ≤ 10 ∧ ∀ W, RdY W a l → RdY W a' (spL l j) := by
  have h10 : (spL l j).length ≤ 10 := by unfold spL; simp; omega
  by_cases hj : j < len
  · obtain ⟨g, off, rfl⟩ := hI (by omega)
    refine ⟨some ⟨g, off + j * 3, none⟩, (spL l j).length, cap - j, ?_, rfl, h10, fun W h => rdY_span h (by omega)⟩
    rw [spL_len l j (by omega), hl]
    rfl
  · have e0 : spL l j = [] := spL_none (by omega)
    have e1 : spE len j - j = 0 := by unfold spE; omega
    rw [e0]
    have hex : ∃ a' c', spW a len cap j = .slice a' 0 c' := by
      unfold spW
      split
      · exact ⟨_, _, by unfold spV; rw [e1]⟩
      · exact ⟨_, _, rfl⟩
    obtain ⟨a', c', e2⟩ := hex
    exact ⟨a', 0, c', e2, rfl, by omega, fun W h h0 => by simp at h0⟩
set_option maxRecDepth 100000 in
set_option maxHeartbeats 4000000 in
theorem isSoM (n : Nat) (hn : 6 ≤ n) (a : Option Addr) (l : List Tk3) (len cap : Nat) (hl : l.length = len) (hlc : len ≤ cap) (hl150 : len ≤ 150) (hP : ∀ x ∈ l, 0 ≤ x.1 ∧ x.1 ≤ 30) (hS : ∀ j, sumT (spL l j) ≤ 30) (Bs : Nat) (w : World) (hBs : Bs < w.heap.size) (hc : w.cell? ⟨Bs, 0, none⟩ = some (.slice a len cap)) (hr : RdY w a l) :
    CallsIn Fence.wide n Tryz.prog 22 #[.agg #[fnS Bs, fnM]] w fun e W' => e = .returned (.bool true) ∧ Below w.heap.size w W' := by
  have h1 : 1 ≤ n := by omega
  refine callsIn_of_wp_marks Tryz.func22 rfl trivial ?_ rfl
  simp only [Tryz.ntmps22, List.size_toArray, List.length_cons, List.length_nil, Nat.reduceAdd, Nat.reduceSub, Array.replicate_succ, Array.replicate_zero, List.push_toArray, List.append_toArray, List.nil_append, List.cons_append]
  have HC : Hid (w.cell? ⟨Bs, 0, none⟩ = some (.slice a len cap)) := hc
  have HR : Hid (RdY w a l) := hr
  have HL : Hid (l.length = len) := hl
  have HP : Hid (∀ x ∈ l, 0 ≤ x.1 ∧ x.1 ≤ 30) := hP
  have HSP : Hid (∀ j, sumT (spL l j) ≤ 30) := hS
  have hI : 0 < len → ∃ g off, a = some ⟨g, off, none⟩ := fun h0 => by obtain ⟨g, off, e, _⟩ := hr (by omega); exact ⟨g, off, e⟩
  clear hc hr hl hP hS
  gi_wp2
  have hs0 : (w.alloc (.cells #[fnS Bs, fnM] 58)).heap.size = w.heap.size + 1 := by simp
  have hT0 : ((w.alloc (.cells #[fnS Bs, fnM] 58)).alloc (.cells #[.bool false] 4)).heap[w.heap.size]? = some (.cells #[fnS Bs, fnM] 58) := (Below.heap_alloc _ _ _ (row_lt (heap_new w _))).trans (heap_new w _)
  have bR := Boxed.new (w.alloc (.cells #[fnS Bs, fnM] 58)) 4 (.bool false)
  rw [hs0] at bR
  have hB0 : Below w.heap.size w ((w.alloc (.cells #[fnS Bs, fnM] 58)).alloc (.cells #[.bool false] 4)) := ((Below.refl _ w).alloc (Nat.le_refl _) _).alloc (by simp) _
  have hsz : ((w.alloc (.cells #[fnS Bs, fnM] 58)).alloc (.cells #[.bool false] 4)).heap.size = w.heap.size + 2 := by simp
  obtain ⟨W0, hW0⟩ : ∃ W0, ((w.alloc (.cells #[fnS Bs, fnM] 58)).alloc (.cells #[.bool false] 4)) = W0 := ⟨_, rfl⟩
  rw [hW0] at hT0 bR hB0 hsz
  (try rw [hW0])
  clear hW0 hs0
  refine wpIn_rangeFunc_ownG rfl h1 (gf := 49) (lb := #[.pointer (some ⟨Bs, 0, none⟩)]) rfl trivial (enters_of Tryz.func49 (by kernel_rfl) rfl)
    (spans_stops Fence.wide (n - 1) trivial rfl (by omega) Bs w.heap.size a len cap hlc hl150 W0 hBs (by omega) ((hB0.cell (p := ⟨Bs, 0, none⟩) hBs).trans HC.out) hI) belowK_t (belowK_b (by omega)) (Below.refl _ _) (fun _ => rfl)
    (fun pre W => (W.heap[w.heap.size]? = some (.cells #[fnS Bs, fnM] 58) ∧ Boxed W (w.heap.size + 1) 4 (.bool false)) ∧ Below w.heap.size w W)
    (fun _ _ _ => False)
    (OwnFrom.and (OwnFrom.and (Own.from (row_ownFrom _ _ _ _) _) ((boxed_own _ _ _).from _)) (ownFrom_below (Nat.le_refl _) (by omega)))
    (fun _ _ _ _ _ hs _ _ => hs)
    ⟨⟨hT0, bR⟩, hB0⟩
    (fun j => { tmps := #[.agg #[fnS Bs, fnM], .pointer (some ⟨w.heap.size, 0, none⟩), .pointer (some ⟨w.heap.size + 1, 0, none⟩), spW a len cap j, .pointer (some ⟨w.heap.size, 0, none⟩), fnS Bs, spW a len cap j, undef, undef, undef, undef, undef], defers := [] }) ?assign ?body ?done ?stop
  case assign =>
    intro l0 x W K hK
    gi_wp2
    exact hK
  case body =>
    rintro l0 pre j W ⟨⟨hT, hb⟩, hB⟩ _
    obtain ⟨a', n', c', e1, e2, e3, e4⟩ := spW_ex a l len cap HL.out hI j
    rw [e1]
    obtain ⟨k0, k1⟩ := cells_two hT
    have CM := mostI a' (spL l j) n' c' e2 (by omega) (fun x hx => HP.out x (List.mem_of_mem_drop (List.mem_of_mem_take hx))) (HSP.out j) W (e4 W (HR.out.keep hB (Nat.le_refl _)))
    have HT : Hid (W.heap[w.heap.size]? = some (.cells #[fnS Bs, fnM] 58)) := hT
    have HBx : Hid (Boxed W (w.heap.size + 1) 4 (.bool false)) := hb
    have HBl : Hid (Below w.heap.size w W) := hB
    clear e1 e2 e4 hT hb hB hI
    gi_wp2_with fail
    refine ⟨trivial, fun _ => by omega, ?_⟩
    refine (CallsIn.inRound l0 (callsIn_wide.2 CM)).mono ?_
    rintro e w3 ⟨rfl, hb3⟩
    gi_wp2
    have hW3 : Below w.heap.size W w3 := hb3.mono HBl.out.size
    exact ⟨⟨hb3.size, fun k o _ hk _ => row_on hk hb3⟩, hW3, ⟨row_on HT.out hb3, (row_on (show W.heap[w.heap.size + 1]? = some _ from HBx.out) hb3)⟩, HBl.out.trans hW3⟩
  case done =>
    rintro D ys W hD rfl ⟨⟨hT, hb⟩, hB⟩ hK
    have hcb := hb.cell
    have hfb := hb.frozen
    gi_wp2
    have hK' := (KeepsOthers.setCell W ⟨w.heap.size + 1, 0, none⟩ (.bool true)).same D _ hK rfl
    refine ⟨by simp, .inl ⟨_, _, rfl, run_takeDeferred hK', ?_⟩⟩
    have hc5 := cell_kept (World.cell?_setCell_same' W ⟨w.heap.size + 1, 0, none⟩ (.bool true) (by rw [hcb]; rfl)) (grownBy_putObj' _ D (.deferred none)) (fun r e => by cases e; exact ⟨_, hK', rfl⟩)
    refine ⟨.bool true, ?_, rfl, (hB.setCell (p := ⟨w.heap.size + 1, 0, none⟩) (by simp) _).trans (belowK_b (w := w) (Nat.le_refl _) _ D _ _ (by omega) hK' rfl rfl)⟩
    simp [results, Tryz.f22, go_sem, hc5]
  case stop =>
    rintro D c pre W _ _ h _
    exact h.elim
set_option maxRecDepth 100000 in
set_option maxHeartbeats 1000000 in
theorem withinI (a : Option Addr) (l : List Tk3) (n cap : Nat) (hl : l.length = n) (hlc : n ≤ cap) (hn : n ≤ 150) (hP : ∀ x ∈ l, 0 ≤ x.1 ∧ x.1 ≤ 30) (hS : ∀ j, sumT (spL l j) ≤ 30) (w : World) (hr : RdY w a l) :
    Calls Tryz.prog 8 #[.slice a n cap] w fun e w' => e = .returned (.bool true) ∧ Below w.heap.size w w' := by
  have HR : Hid (RdY w a l) := hr
  have HL : Hid (l.length = n) := hl
  have HP : Hid (∀ x ∈ l, 0 ≤ x.1 ∧ x.1 ≤ 30) := hP
  have HSP : Hid (∀ j, sumT (spL l j) ≤ 30) := hS
  clear hr hl hP hS
  go_enter Tryz.func8, Tryz.ntmps8
  go_wp2_with fail
  refine (spansOfI a n cap _).mono ?_
  rintro e w1 ⟨rfl, rfl⟩
  have hb1 : Below w.heap.size w (w.alloc (.cells #[.slice a n cap] 33)) := (Below.refl _ _).alloc (Nat.le_refl _) _
  have HB1 : Hid (Below w.heap.size w (w.alloc (.cells #[.slice a n cap] 33))) := hb1
  have HI : Hid (RdY (w.alloc (.cells #[.slice a n cap] 33)) a l) := HR.out.on hb1
  have HC : Hid ((w.alloc (.cells #[.slice a n cap] 33)).cell? ⟨w.heap.size, 0, none⟩ = some (.slice a n cap)) := (Boxed.new w _ _).cell
  clear hb1
  go_wp2_with fail
  refine (callsIn_wide.1 (isSoM 6 (by omega) a l n cap HL.out hlc hn HP.out HSP.out w.heap.size _ (by simp) HC.out HI.out)).mono ?_
  rintro e w2 ⟨rfl, hb2⟩
  have HB2 : Hid (Below w.heap.size w w2) := bel_on (Nat.le_refl _) HB1.out hb2
  clear hb2 HB1 HI HC
  go_wp2
  go_ret
  exact ⟨rfl, HB2.out⟩
theorem sumT_plsF : ∀ l : List Tk3, sumT l = G.sumN (plsF l)
  | [] => rfl
  | x :: l => by
    show x.1 + sumT l = x.1 + G.sumN (plsF l)
    rw [sumT_plsF l]
theorem span_le {D : Dv} (h : TruS D) (j : Nat) : sumT (spL D.t j) ≤ 30 := by
  rw [sumT_plsF, show plsF (spL D.t j) = ((plsF D.t).drop j).take 10 by simp [spL, plsF, List.map_take, List.map_drop]]
  exact tru_span h j
end Go.Proofs.YtdifmjcghaoilaaGreatDoor
