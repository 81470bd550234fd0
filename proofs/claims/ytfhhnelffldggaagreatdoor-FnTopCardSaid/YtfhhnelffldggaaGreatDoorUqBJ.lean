/-
  ordersOf of the program's device: its keys, then its link.
-/
import Derived.Test.YtfhhnelffldggaaGreatDoorUqBE
import Derived.Test.YtfhhnelffldggaaGreatDoorUqBH
import Derived.Test.YtfhhnelffldggaaGreatDoorUqBI
import Derived.Test.YtfhhnelffldggaaGreatDoorUqAS
import Derived.Deep.DeepCutAuto
import Derived.Test.YtfhhnelffldggaaGreatDoorUqAC
import Derived.Test.YtfhhnelffldggaaGreatDoorUqAW
import Derived.Test.YtfhhnelffldggaaGreatDoorUqAG
import Derived.Test.YtfhhnelffldggaaGreatDoorUqBF
import Derived.Test.YtfhhnelffldggaaGreatDoorUqAX
import Derived.Test.YtfhhnelffldggaaGreatDoorUqAZ
import Derived.Test.YtfhhnelffldggaaGreatDoorUqAR
import Derived.Test.YtfhhnelffldggaaGreatDoorUqAH
import Derived.Test.YtfhhnelffldggaaGreatDoorUqAJ
set_option maxRecDepth 100000
set_option maxHeartbeats 16000000
namespace Go.Proofs.YtfhhnelffldggaaGreatDoor
open Go.RowKit Go.PlainAid
set_option linter.unusedVariables false
set_option linter.unusedSimpArgs false
theorem aqOdI {p : Prop} (h : p) : Hid p := h
def KS (w w' : World) (k : Nat) (o : Obj) (j : Nat) (o2 : Obj) : Prop := w'.heap[k]? = some o ∧ w'.heap[j]? = some o2 ∧ w.grownBy w' (some k)
theorem KS.on {w w' w2 : World} {k j : Nat} {o o2 : Obj} (h : KS w w' k o j o2) (hb : Below w'.heap.size w' w2) : KS w w2 k o j o2 := ⟨row_on h.1 hb, row_on h.2.1 hb, grw_on h.2.2 hb⟩
theorem KS.new {w w' w2 : World} {k j V : Nat} {o o2 ob : Obj} (h : KS w w' k o j o2) (hp : PutM w' w2 V ob) (hw : w.heap.size ≤ V) (hk : k < V) (hj : j < V) : KS w w2 k o j o2 :=
 ⟨hp.far h.1 (by omega), hp.far h.2.1 (by omega), grw_new h.2.2 hp hw⟩
theorem KS.put {w w' w2 : World} {k j : Nat} {o o2 ob : Obj} (h : KS w w' k o j o2) (hp : PutM w' w2 k ob) (hj : j ≠ k) : KS w w2 k ob j o2 := ⟨hp.1, hp.far h.2.1 hj, grw_put h.2.2 hp⟩
theorem KS.grown {w w' w2 : World} {k j : Nat} {o o2 : Obj} {r : Option Nat} (h : KS w w' k o j o2) (hg : w'.grownBy w2 r) (hk : r ≠ some k) (hj : r ≠ some j) (hr : ∀ i, r = some i → w.heap.size ≤ i) : KS w w2 k o j o2 :=
 ⟨row_grown h.1 hg hk, row_grown h.2.1 hg hj, ⟨hg.os.trans h.2.2.os, hg.tape.trans h.2.2.tape, hg.output.trans h.2.2.output, Nat.le_trans h.2.2.size hg.size, fun i hi hr2 => (hg.block i (Nat.lt_of_lt_of_le hi h.2.2.size) (fun e => by have := hr i e.symm; omega)).trans (h.2.2.block i hi hr2)⟩⟩
theorem link_emptyd (L : ByteArray) : (L.toList = []) ↔ L.size = 0 := by
 rw [ByteArray.toList_eq]
 constructor
 ·
  intro h
  show L.data.size = 0
  rw [← Array.length_toList, h]
  rfl
 ·
  intro h
  have h2 : L.data.size = 0 := h
  exact List.length_eq_zero_iff.1 (by rw [Array.length_toList]; exact h2)
theorem tab_grw {w W : World} {k : Nat} {cs : Array Value} {T : TypeId} {z : Int} (ht : Q.Tab w) (hX : w.heap[k]? = some (.cells cs T)) (h0 : cs[0]? = some (.int .i64 z)) (hg : w.grownBy W (some k)) : Q.Tab W := by
 intro r hr
 have c := ht r hr
 have hne : 0 ≠ k := by
  intro e
  have c0 := ht 0 (by omega)
  subst e
  rw [cell_of_row w _ 0 cs T (0, 0) hX, h0] at c0
  cases c0
 have hlt := block_lt_of_cell c
 rw [World.cell?_of_block (hg.block 0 hlt (fun e => hne (Option.some.inj e)))]
 exact c
theorem ordersI (k : Nat) (p : Pm) (pv : Value) (al : Int) (m : Mn) (tv : Value) (rf : Int) (x : Inp) (hx : x.ok) (hm : GdM m) (M : Mn) (l2 : List Od4) (hM : allM m x.i.ks = (M, l2)) (os : List Od4) (q7 : Nat) (hos : l2 ++ x.i.lo = os) (hq : os.length = q7) (hr0 : 0 ≤ rf) (hr1 : rf ≤ 999999900) (w : World) (ht : Q.Tab w) (hX : w.heap[k]? = some (.cells #[.int .i64 p.s, .int .i64 p.n, .int .i64 p.d, .int .i64 p.r, .int .i64 p.l, .int .i64 p.b, .int .i64 p.g, .int .i64 p.k, pv, .int .i64 al, .int .i64 m.a, .bool m.b, .int .i64 m.n, .int .i64 m.d, .string ⟨m.s.toArray⟩, tv, .int .i64 rf] 112)) :
  Calls Tryz.prog 80 #[.pointer (some ⟨k, 0, none⟩), .agg #[.int .i64 x.i.b, .string x.K, .string x.L]] w fun e w' => ∃ A c, e = .returned (.slice A q7 c) ∧ OwnA w' w.heap.size A q7 c os ∧ w'.heap[k]? = some (.cells #[.int .i64 p.s, .int .i64 p.n, .int .i64 p.d, .int .i64 p.r, .int .i64 p.l, .int .i64 p.b, .int .i64 p.g, .int .i64 p.k, pv, .int .i64 al, .int .i64 M.a, .bool M.b, .int .i64 M.n, .int .i64 M.d, .string ⟨M.s.toArray⟩, tv, .int .i64 (rf + x.i.lr)] 112) ∧ w.grownBy w' (some k) := by
 have HXO : Hid x.ok := hx
 have HLK : Hid (LkD x.L x.i.lo x.i.lr) := hx.2.1
 have HKS : Hid ((⟨x.i.ks.toArray⟩ : ByteArray) = x.K) := hx.1
 have HGM := aqOdI hm
 have HM := aqOdI hM
 have HOS := aqOdI hos
 have HQ7 := aqOdI hq
 have HT := aqOdI ht
 have HX := aqOdI hX
 have hkn : x.i.ks.length ≤ 20 := hx.ic.2.1
 have hln : x.L.size ≤ 40 := hx.2.2.2.2
 have hk : k < w.heap.size := row_lt hX
 obtain ⟨q, hq2⟩ : ∃ q, l2.length = q := ⟨_, rfl⟩
 have hl20 : q ≤ 20 := by have h := allM_len x.i.ks m; rw [hM] at h; dsimp only at h; omega
 have HQ := aqOdI hq2
 clear hx hm hM hos hq ht hX hq2
 obtain ⟨W0, hW0⟩ : ∃ W0, (w.alloc (.cells #[.int .i64 x.i.b, .string x.K, .string x.L] 46)) = W0 := ⟨_, rfl⟩
 have HK0 : Hid (KS w W0 k (.cells #[.int .i64 p.s, .int .i64 p.n, .int .i64 p.d, .int .i64 p.r, .int .i64 p.l, .int .i64 p.b, .int .i64 p.g, .int .i64 p.k, pv, .int .i64 al, .int .i64 m.a, .bool m.b, .int .i64 m.n, .int .i64 m.d, .string ⟨m.s.toArray⟩, tv, .int .i64 rf] 112) w.heap.size (.cells #[.int .i64 x.i.b, .string x.K, .string x.L] 46)) := by
  show KS w W0 k (.cells #[.int .i64 p.s, .int .i64 p.n, .int .i64 p.d, .int .i64 p.r, .int .i64 p.l, .int .i64 p.b, .int .i64 p.g, .int .i64 p.k, pv, .int .i64 al, .int .i64 m.a, .bool m.b, .int .i64 m.n, .int .i64 m.d, .string ⟨m.s.toArray⟩, tv, .int .i64 rf] 112) w.heap.size (.cells #[.int .i64 x.i.b, .string x.K, .string x.L] 46)
  rw [← hW0]
  exact ⟨row_on HX.out (alM _ _), heap_new w _, grw_on (grw_refl _ _) (alM _ _)⟩
 have HX0 := HX
 clear HX
 go_enter Tryz.func80, Tryz.ntmps80
 go_upto_region 1 with fail
 (try rw [hW0])
 clear hW0
 go_cut [5, 6] (fun v5 v6 wd => ∃ (V : Nat) (A : Option Addr) (c : Nat), v5 = .pointer (some ⟨V, 0, none⟩) ∧ v6 = .slice A q c ∧ w.heap.size < V ∧ Hid (KS w wd k (.cells #[.int .i64 p.s, .int .i64 p.n, .int .i64 p.d, .int .i64 p.r, .int .i64 p.l, .int .i64 p.b, .int .i64 p.g, .int .i64 p.k, pv, .int .i64 al, .int .i64 m.a, .bool m.b, .int .i64 m.n, .int .i64 m.d, .string ⟨m.s.toArray⟩, tv, .int .i64 rf] 112) w.heap.size (.cells #[.int .i64 x.i.b, .string x.K, .string x.L] 46)) ∧ Hid (wd.heap[V]? = some (.cells #[.int .i64 M.a, .bool M.b, .int .i64 M.n, .int .i64 M.d, .string ⟨M.s.toArray⟩] 34)) ∧ Hid (OwnA wd w.heap.size A q c l2))
 case first =>
  have HK1 : KS w W0.drew k (.cells #[.int .i64 p.s, .int .i64 p.n, .int .i64 p.d, .int .i64 p.r, .int .i64 p.l, .int .i64 p.b, .int .i64 p.g, .int .i64 p.k, pv, .int .i64 al, .int .i64 m.a, .bool m.b, .int .i64 m.n, .int .i64 m.d, .string ⟨m.s.toArray⟩, tv, .int .i64 rf] 112) w.heap.size (.cells #[.int .i64 x.i.b, .string x.K, .string x.L] 46) := ⟨HK0.out.1, HK0.out.2.1, grw_drew HK0.out.2.2⟩
  refine wp_region_held_drew (S := fun w' => KS w w' k (.cells #[.int .i64 p.s, .int .i64 p.n, .int .i64 p.d, .int .i64 p.r, .int .i64 p.l, .int .i64 p.b, .int .i64 p.g, .int .i64 p.k, pv, .int .i64 al, .int .i64 m.a, .bool m.b, .int .i64 m.n, .int .i64 m.d, .string ⟨m.s.toArray⟩, tv, .int .i64 rf] 112) w.heap.size (.cells #[.int .i64 x.i.b, .string x.K, .string x.L] 46)) (by kernel_rfl) HK1 (fun hHeld => ?_)
  obtain ⟨v0, hv0⟩ : ∃ v0, W0.drew = v0 := ⟨_, rfl⟩
  rw [hv0] at HK1 hHeld ⊢
  clear hv0 HK0
  have HK0 := HK1
  clear HK1
  refine tkQ 0 ?_ rfl ?_ ?_
  rotate_left
  · intro w_ hSw; clear hSw; (try clear hHeld); go_simp <;> with_reducible rfl
  try simp only [Act.put, sQ]
  refine tkQ 1 ?_ rfl ?_ ?_
  rotate_left
  · intro w_ hSw; clear hSw; (try clear hHeld); go_simp <;> with_reducible rfl
  try simp only [Act.put, sQ]
  refine tkQ 2 ?_ rfl ?_ ?_
  rotate_left
  · intro w_ hSw; clear hSw; (try clear hHeld); go_simp <;> with_reducible rfl
  try simp only [Act.put, sQ]
  refine tkQ 3 ?_ rfl ?_ ?_
  rotate_left
  · intro w_ hSw; (try dsimp only at hSw); have f0 := box17_cells hSw.1; clear hSw; (try clear hHeld); go_simp <;> with_reducible rfl
  try simp only [Act.put, sQ]
  refine tkQ 4 ?_ rfl ?_ ?_
  rotate_left
  · intro w_ hSw; clear hSw; (try clear hHeld); go_simp <;> with_reducible rfl
  try simp only [Act.put, sQ]
  refine tkQ 5 ?_ rfl ?_ ?_
  rotate_left
  · intro w_ hSw; (try dsimp only at hSw); have f0 := box3i_cells hSw.2.1; clear hSw; (try clear hHeld); go_simp <;> with_reducible rfl
  try simp only [Act.put, sQ]
  refine wpAnyH_ready (rs := [6, 10]) (by kernel_rfl) (by simp) ?_
  refine (AllReadyH.cons rfl (fun J hJ => ?_) (AllReadyH.cons rfl (fun J hJ => ?_) AllReadyH.nil))
  ·
   go_simp
   go_at_call 130
   refine (pressAllI' m HGM.out x.i.ks x.K HKS.out M l2 q HM.out HQ.out (by omega) _).mono ?_
   rintro e v1 ⟨A, c, rfl, hoa, hbc⟩
   have HK1 := HK0.on hbc
   have HO1 : Hid (OwnA v1 w.heap.size A q c l2) := hoa.mono (Nat.le_of_lt (row_lt HK0.2.1))
   clear hbc hoa HK0
   unfold mnV
   go_wp2_with fail
   refine hJ.out _ _ HK1 (fun hHeld => ?_)
   clear hJ J
   try simp only [Act.put, sQ]
   refine tkQ 7 ?_ rfl ?_ ?_
   rotate_left
   · intro w_ hSw; clear hSw; (try clear hHeld); go_simp <;> with_reducible rfl
   try simp only [Act.put, sQ]
   refine tkQ 8 ?_ rfl ?_ ?_
   rotate_left
   · intro w_ hSw; clear hSw; (try clear hHeld); go_simp <;> with_reducible rfl
   try simp only [Act.put, sQ]
   refine tkQ 9 ?_ rfl ?_ ?_
   rotate_left
   · intro w_ hSw; clear hSw; (try clear hHeld); go_simp <;> with_reducible rfl
   try simp only [Act.put, sQ]
   refine wpAnyH_ready (rs := [10]) (by kernel_rfl) (by simp) ?_
   refine (AllReadyH.cons rfl (fun J hJ => ?_) AllReadyH.nil)
   go_simp
   have hsz2 : w.heap.size < v1.heap.size := row_lt HK1.2.1
   have HK2 := HK1.on (alM v1 (.cells #[.int .i64 0, .bool false, .int .i64 0, .int .i64 0, .string ⟨#[]⟩] 34))
   have HV2 : Hid ((v1.alloc (.cells #[.int .i64 0, .bool false, .int .i64 0, .int .i64 0, .string ⟨#[]⟩] 34)).heap[v1.heap.size]? = some (.cells #[.int .i64 0, .bool false, .int .i64 0, .int .i64 0, .string ⟨#[]⟩] 34)) := heap_new v1 _
   have HO2 : Hid (OwnA (v1.alloc (.cells #[.int .i64 0, .bool false, .int .i64 0, .int .i64 0, .string ⟨#[]⟩] 34)) w.heap.size A q c l2) := HO1.out.on (alM _ _)
   refine hJ.out _ _ HK2 (fun hHeld => ?_)
   clear hJ J HK1 HO1
   try simp only [Act.put, sQ]
   generalize v1.alloc (.cells #[.int .i64 0, .bool false, .int .i64 0, .int .i64 0, .string ⟨#[]⟩] 34) = v2 at *
   generalize v1.heap.size = V at *
   refine wpAnyH_ready (rs := [11]) (by kernel_rfl) (by simp) ?_
   refine AllReadyH.cons rfl (fun J hJ => ?_) AllReadyH.nil
   refine storeR_any rfl rfl _ _ _ rfl V #[.int .i64 M.a, .bool M.b, .int .i64 M.n, .int .i64 M.d, .string ⟨M.s.toArray⟩] rfl rfl (by kernel_rfl) (by kernel_rfl) HV2.out rfl ?_
   intro v9 hput
   have HK9 : KS w v9 k (.cells #[.int .i64 p.s, .int .i64 p.n, .int .i64 p.d, .int .i64 p.r, .int .i64 p.l, .int .i64 p.b, .int .i64 p.g, .int .i64 p.k, pv, .int .i64 al, .int .i64 m.a, .bool m.b, .int .i64 m.n, .int .i64 m.d, .string ⟨m.s.toArray⟩, tv, .int .i64 rf] 112) w.heap.size (.cells #[.int .i64 x.i.b, .string x.K, .string x.L] 46) := HK2.new hput (by omega) (by omega) (by omega)
   have HV9 := aqOdI hput.1
   have HO9 : Hid (OwnA v9 w.heap.size A q c l2) := own_putM HO2.out hput (own_ne HO2.out HV2.out (by decide))
   clear hput HK2 HV2 HO2
   refine hJ.out _ _ HK9 (fun hHeld => ?_)
   clear hJ J
   try simp only [Act.put, sQ]
   refine tkQ 12 ?_ rfl ?_ ?_
   rotate_left
   · intro w_ hSw; clear hSw; (try clear hHeld); go_simp <;> with_reducible rfl
   try simp only [Act.put, sQ]
   clear hHeld
   refine wpAnyH_done (by kernel_rfl) ?_ _
   (try go_wp2_with fail)
   go_meet
   exact ⟨V, A, c, rfl, rfl, by omega, HK9, HV9, HO9⟩
  ·
   go_simp
   have hsz1 : w.heap.size < v0.heap.size := row_lt HK0.2.1
   have HK1 := HK0.on (alM v0 (.cells #[.int .i64 0, .bool false, .int .i64 0, .int .i64 0, .string ⟨#[]⟩] 34))
   have HV1 : Hid ((v0.alloc (.cells #[.int .i64 0, .bool false, .int .i64 0, .int .i64 0, .string ⟨#[]⟩] 34)).heap[v0.heap.size]? = some (.cells #[.int .i64 0, .bool false, .int .i64 0, .int .i64 0, .string ⟨#[]⟩] 34)) := heap_new v0 _
   refine hJ.out _ _ HK1 (fun hHeld => ?_)
   clear hJ J HK0
   try simp only [Act.put, sQ]
   generalize v0.alloc (.cells #[.int .i64 0, .bool false, .int .i64 0, .int .i64 0, .string ⟨#[]⟩] 34) = v1 at *
   generalize v0.heap.size = V at *
   refine wpAnyH_ready (rs := [6]) (by kernel_rfl) (by simp) ?_
   refine (AllReadyH.cons rfl (fun J hJ => ?_) AllReadyH.nil)
   go_simp
   go_at_call 130
   refine (pressAllI' m HGM.out x.i.ks x.K HKS.out M l2 q HM.out HQ.out (by omega) _).mono ?_
   rintro e v2 ⟨A, c, rfl, hoa, hbc⟩
   have HK2 := HK1.on hbc
   have HO2 : Hid (OwnA v2 w.heap.size A q c l2) := hoa.mono (Nat.le_of_lt (row_lt HK1.2.1))
   have HV2 := rq HV1 hbc
   clear hbc hoa HK1 HV1
   unfold mnV
   go_wp2_with fail
   refine hJ.out _ _ HK2 (fun hHeld => ?_)
   clear hJ J
   try simp only [Act.put, sQ]
   refine tkQ 7 ?_ rfl ?_ ?_
   rotate_left
   · intro w_ hSw; clear hSw; (try clear hHeld); go_simp <;> with_reducible rfl
   try simp only [Act.put, sQ]
   refine tkQ 8 ?_ rfl ?_ ?_
   rotate_left
   · intro w_ hSw; clear hSw; (try clear hHeld); go_simp <;> with_reducible rfl
   try simp only [Act.put, sQ]
   refine tkQ 9 ?_ rfl ?_ ?_
   rotate_left
   · intro w_ hSw; clear hSw; (try clear hHeld); go_simp <;> with_reducible rfl
   try simp only [Act.put, sQ]
   refine wpAnyH_ready (rs := [11]) (by kernel_rfl) (by simp) ?_
   refine AllReadyH.cons rfl (fun J hJ => ?_) AllReadyH.nil
   refine storeR_any rfl rfl _ _ _ rfl V #[.int .i64 M.a, .bool M.b, .int .i64 M.n, .int .i64 M.d, .string ⟨M.s.toArray⟩] rfl rfl (by kernel_rfl) (by kernel_rfl) HV2.out rfl ?_
   intro v9 hput
   have HK9 : KS w v9 k (.cells #[.int .i64 p.s, .int .i64 p.n, .int .i64 p.d, .int .i64 p.r, .int .i64 p.l, .int .i64 p.b, .int .i64 p.g, .int .i64 p.k, pv, .int .i64 al, .int .i64 m.a, .bool m.b, .int .i64 m.n, .int .i64 m.d, .string ⟨m.s.toArray⟩, tv, .int .i64 rf] 112) w.heap.size (.cells #[.int .i64 x.i.b, .string x.K, .string x.L] 46) := HK2.new hput (by omega) (by omega) (by omega)
   have HV9 := aqOdI hput.1
   have HO9 : Hid (OwnA v9 w.heap.size A q c l2) := own_putM HO2.out hput (own_ne HO2.out HV2.out (by decide))
   clear hput HK2 HV2 HO2
   refine hJ.out _ _ HK9 (fun hHeld => ?_)
   clear hJ J
   try simp only [Act.put, sQ]
   refine tkQ 12 ?_ rfl ?_ ?_
   rotate_left
   · intro w_ hSw; clear hSw; (try clear hHeld); go_simp <;> with_reducible rfl
   try simp only [Act.put, sQ]
   clear hHeld
   refine wpAnyH_done (by kernel_rfl) ?_ _
   (try go_wp2_with fail)
   go_meet
   exact ⟨V, A, c, rfl, rfl, by omega, HK9, HV9, HO9⟩
 case rest =>
  obtain ⟨V, A, c, rfl, rfl, hVw, HK2, HV, HO2⟩ := hcut
  have y := box5_cells HV.out
  go_upto_region 2 with fail
  go_wp2_with (refine listMenu rfl rfl _ _ _ rfl k (.int .i64 M.a) (.bool M.b) (.int .i64 M.n) (.int .i64 M.d) (.string ⟨M.s.toArray⟩) rfl rfl HK2.out.1 (by kernel_rfl) (by kernel_rfl) ?_)
  intro w3 hput
  have HK3 : Hid (KS w w3 k (.cells #[.int .i64 p.s, .int .i64 p.n, .int .i64 p.d, .int .i64 p.r, .int .i64 p.l, .int .i64 p.b, .int .i64 p.g, .int .i64 p.k, pv, .int .i64 al, .int .i64 M.a, .bool M.b, .int .i64 M.n, .int .i64 M.d, .string ⟨M.s.toArray⟩, tv, .int .i64 rf] 112) w.heap.size (.cells #[.int .i64 x.i.b, .string x.K, .string x.L] 46)) := HK2.out.put hput (by omega)
  have HO3 : Hid (OwnA w3 w.heap.size A q c l2) := own_putM HO2.out hput (own_ne HO2.out HK2.out.1 (by decide))
  clear hput HK2 HO2 HV y
  have i3 := box3i_cells HK3.out.2.1
  obtain ⟨B3, hB3⟩ : ∃ B : Bool, x.L.toList.isEmpty = B := ⟨_, rfl⟩
  have HB3 := aqOdI hB3
  rcases HLK.out with ⟨h1, h2, h3⟩ | ⟨h1, k0, n0, d0, v0, b0, h2, h3⟩
  ·
   have hE : x.L.toList = [] := (link_emptyd x.L).2 h1
   have hE2 : x.L.toList.isEmpty = true := by rw [hE]; rfl
   have e1 : l2 = os := by rw [← HOS.out, h2, List.append_nil]
   have e2 : q = q7 := by rw [← HQ.out, e1, HQ7.out]
   have HF : Hid (w3.heap[k]? = some (.cells #[.int .i64 p.s, .int .i64 p.n, .int .i64 p.d, .int .i64 p.r, .int .i64 p.l, .int .i64 p.b, .int .i64 p.g, .int .i64 p.k, pv, .int .i64 al, .int .i64 M.a, .bool M.b, .int .i64 M.n, .int .i64 M.d, .string ⟨M.s.toArray⟩, tv, .int .i64 (rf + x.i.lr)] 112)) := by show _ = _; rw [h3, Int.add_zero]; exact HK3.out.1
   have HOF : Hid (OwnA w3 w.heap.size A q7 c os) := by show OwnA _ _ _ _ _ _; rw [← e1, ← e2]; exact HO3.out
   clear h1 h2 h3 hE HB3 hB3
   subst e2
   go_wp2
   go_ret
   exact ⟨A, c, rfl, HOF, HF, HK3.out.2.2⟩
  ·
   have hE : ¬ x.L.toList = [] := fun h => h1 ((link_emptyd x.L).1 h)
   have hE2 : x.L.toList.isEmpty = false := by cases h : x.L.toList with | nil => exact absurd h hE | cons => rfl
   have HRO := aqOdI h2
   have HCS := aqOdI h3
   clear h1 h2 h3 HB3 hB3 hE
   go_wp2_with fail
   refine (readoI x.L (by omega) _ (tab_grw HT.out HX0.out rfl HK3.out.2.2)).mono ?_
   rintro e w4 ⟨k1, n1, d1, v1, b1, rfl, hro, hb⟩
   obtain ⟨rfl, rfl, rfl, rfl, rfl⟩ := HRO.out.uni hro
   have HK4 : Hid (KS w (w4.alloc (oB k0 n0 d0 v0)) k (.cells #[.int .i64 p.s, .int .i64 p.n, .int .i64 p.d, .int .i64 p.r, .int .i64 p.l, .int .i64 p.b, .int .i64 p.g, .int .i64 p.k, pv, .int .i64 al, .int .i64 M.a, .bool M.b, .int .i64 M.n, .int .i64 M.d, .string ⟨M.s.toArray⟩, tv, .int .i64 rf] 112) w.heap.size (.cells #[.int .i64 x.i.b, .string x.K, .string x.L] 46)) := (HK3.out.on hb).on (alM _ _)
   have HO4 : Hid (OwnA (w4.alloc (oB k0 n0 d0 v0)) w.heap.size A q c l2) := (HO3.out.on hb).on (alM _ _)
   have HY4 : Hid ((w4.alloc (oB k0 n0 d0 v0)).heap[w4.heap.size]? = some (oB k0 n0 d0 v0)) := heap_new w4 _
   clear hro hb HK3 HO3 i3 hE2
   unfold ordV
   go_upto_region 6 with fail
   generalize w4.alloc (oB k0 n0 d0 v0) = w5 at *
   generalize w4.heap.size = V5 at *
   rcases HCS.out with ⟨rfl, h2, h3⟩ | ⟨rfl, h2, h3⟩
   ·
    have y9 := box4_cells HY4.out
    have HK9 : Hid (KS w (w5.alloc (oB k0 n0 d0 v0)) k (.cells #[.int .i64 p.s, .int .i64 p.n, .int .i64 p.d, .int .i64 p.r, .int .i64 p.l, .int .i64 p.b, .int .i64 p.g, .int .i64 p.k, pv, .int .i64 al, .int .i64 M.a, .bool M.b, .int .i64 M.n, .int .i64 M.d, .string ⟨M.s.toArray⟩, tv, .int .i64 rf] 112) w.heap.size (.cells #[.int .i64 x.i.b, .string x.K, .string x.L] 46)) := HK4.out.on (alM _ _)
    have HO9 : Hid (OwnA (w5.alloc (oB k0 n0 d0 v0)) w.heap.size A q c l2) := HO4.out.on (alM _ _)
    have HR9 : Hid (RdQ (w5.alloc (oB k0 n0 d0 v0)) (some ⟨w5.heap.size, 0, none⟩) [(k0, n0, d0, v0)]) := (one_rowQ w5 k0 n0 d0 v0).rd
    have hs9 : w.heap.size ≤ w5.heap.size := HK4.out.2.2.size
    have e1 : l2 ++ [(k0, n0, d0, v0)] = os := by rw [← HOS.out, h2]
    have e2 : q + 1 = q7 := by rw [← HQ7.out, ← e1, List.length_append, HQ.out]; rfl
    have HE1 : Hid (l2 ++ [(k0, n0, d0, v0)] = os) := e1
    have HE3 := aqOdI h3
    clear h2 h3 e1 HK4 HO4 HY4 HCS HRO
    subst e2
    go_upto_region 9 with fail
    go_wp2_with (refine listA rfl (.tmp 43) (.tmp 45) rfl w.heap.size q c A l2 ⟨w5.heap.size, 0, none⟩ (k0, n0, d0, v0) rfl rfl HO9.out HR9.out (by omega) (by simp; omega) ?_)
    intro g6 c6 w10 ho6 hg6
    have HK10 : Hid (KS w w10 k (.cells #[.int .i64 p.s, .int .i64 p.n, .int .i64 p.d, .int .i64 p.r, .int .i64 p.l, .int .i64 p.b, .int .i64 p.g, .int .i64 p.k, pv, .int .i64 al, .int .i64 M.a, .bool M.b, .int .i64 M.n, .int .i64 M.d, .string ⟨M.s.toArray⟩, tv, .int .i64 rf] 112) w.heap.size (.cells #[.int .i64 x.i.b, .string x.K, .string x.L] 46)) := HK9.out.grown hg6 (fun e => own_ne HO9.out HK9.out.1 (by decide) _ e rfl) (fun e => own_ne HO9.out HK9.out.2.1 (by decide) _ e rfl) (fun i hi => own_ge HO9.out i hi)
    have HF : Hid (w10.heap[k]? = some (.cells #[.int .i64 p.s, .int .i64 p.n, .int .i64 p.d, .int .i64 p.r, .int .i64 p.l, .int .i64 p.b, .int .i64 p.g, .int .i64 p.k, pv, .int .i64 al, .int .i64 M.a, .bool M.b, .int .i64 M.n, .int .i64 M.d, .string ⟨M.s.toArray⟩, tv, .int .i64 (rf + x.i.lr)] 112)) := by show _ = _; rw [HE3.out, Int.add_zero]; exact HK10.out.1
    have HO10 : Hid (OwnA w10 w.heap.size (some ⟨g6, 0, none⟩) (q + 1) c6 os) := by show OwnA _ _ _ _ _ _; rw [← HE1.out]; exact ho6
    clear ho6 hg6 HK9 HO9 HR9 y9
    go_wp2
    go_ret
    exact ⟨some ⟨g6, 0, none⟩, c6, rfl, HO10, HF, HK10.out.2.2⟩
   ·
    have e1 : l2 = os := by rw [← HOS.out, h2, List.append_nil]
    have e2 : q = q7 := by rw [← HQ.out, e1, HQ7.out]
    have HO9 : Hid (OwnA w5 w.heap.size A q7 c os) := by show OwnA _ _ _ _ _ _; rw [← e1, ← e2]; exact HO4.out
    have HE3 := aqOdI h3
    have k9 := box17_cells HK4.out.1
    have qr : IntKind.i64.wrap (rf + 1) = rf + 1 := wrap_in (by omega) (by omega)
    clear h2 h3 e1 HO4 HCS HRO HY4
    subst e2
    go_upto_region 7 with fail
    go_wp2_with (refine listStoreI rfl rfl _ _ _ rfl rfl k 16 (rf + 1) rfl rfl HK4.out.1 (by simp) ?_)
    intro w10 hput
    have HF : Hid (w10.heap[k]? = some (.cells #[.int .i64 p.s, .int .i64 p.n, .int .i64 p.d, .int .i64 p.r, .int .i64 p.l, .int .i64 p.b, .int .i64 p.g, .int .i64 p.k, pv, .int .i64 al, .int .i64 M.a, .bool M.b, .int .i64 M.n, .int .i64 M.d, .string ⟨M.s.toArray⟩, tv, .int .i64 (rf + x.i.lr)] 112)) := by show _ = _; rw [HE3.out]; exact hput.1
    have HG : Hid (w.grownBy w10 (some k)) := grw_put HK4.out.2.2 hput
    have HO10 : Hid (OwnA w10 w.heap.size A q c os) := own_putM HO9.out hput (own_ne HO9.out HK4.out.1 (by decide))
    clear hput HK4 HO9 k9 qr
    go_wp2
    go_ret
    exact ⟨A, c, rfl, HO10, HF, HG.out⟩
theorem newdS (w : World) : Calls Tryz.prog 46 #[] w fun e w' => e = .returned (.agg #[.int .i64 0, .int .i64 0, .int .i64 1, .int .i64 0, .int .i64 0, .int .i64 0, .int .i64 0, .int .i64 0]) ∧ Below w.heap.size w w' := by
 have HB0 : Hid (Below w.heap.size w (w.alloc (PB 0 0 0 0 0 0 0 0))) := alP _ _
 have HZ0 : Hid ((w.alloc (PB 0 0 0 0 0 0 0 0)).heap[w.heap.size]? = some (PB 0 0 0 0 0 0 0 0)) := heap_new w _
 go_enter Tryz.func46, Tryz.ntmps46
 go_upto_region 1 with fail
 go_wp2_with (refine listStoreP rfl rfl _ _ _ rfl rfl w.heap.size 0 0 1 0 0 0 0 0 rfl rfl HZ0.out ?_)
 intro w9 hr9 ho9 hs9 hB9
 have HF := hq (hB9 _ _ (Nat.le_refl _) HB0.out)
 obtain ⟨⟨q0, q1, q2, q3, q4, q5, q6, q7⟩, _⟩ := box8_cells hr9
 clear ho9 hs9 hB9 hr9
 go_wp2
 refine bodyPost_ret (v := .agg #[.int .i64 0, .int .i64 0, .int .i64 1, .int .i64 0, .int .i64 0, .int .i64 0, .int .i64 0, .int .i64 0]) (by simp only [results, Tryz.results46]; simp [go_sem, q0, q1, q2, q3, q4, q5, q6, q7]) rfl ⟨rfl, HF.out⟩
theorem mnewdS (w : World) : Calls Tryz.prog 47 #[] w fun e w' => e = .returned (.agg #[.int .i64 1, .bool false, .int .i64 0, .int .i64 0, .string ⟨#[]⟩]) ∧ Below w.heap.size w w' := menunewS w
theorem dnewS (w : World) : Calls Tryz.prog 15 #[] w fun e w' => e = .returned (.agg #[.int .i64 0, .int .i64 0, .int .i64 1, .int .i64 0, .int .i64 0, .int .i64 0, .int .i64 0, .int .i64 0, .slice none 0 0, .int .i64 0, .int .i64 1, .bool false, .int .i64 0, .int .i64 0, .string ⟨#[]⟩, .slice none 0 0, .int .i64 0]) ∧ Below w.heap.size w w' := by
 obtain ⟨W0, hW0⟩ : ∃ W0, (w.alloc (dZ)) = W0 := ⟨_, rfl⟩
 have HB0 : Hid (Below w.heap.size w W0) := by rw [← hW0]; exact alM _ _
 have HX0 : Hid (W0.heap[w.heap.size]? = some (dZ)) := by rw [← hW0]; exact heap_new w _
 go_enter Tryz.func15, Tryz.ntmps15
 go_upto_region 1 with fail
 (try rw [hW0])
 clear hW0
 go_wp2_with fail
 refine (newdS _).mono ?_
 rintro e w1 ⟨rfl, hb⟩
 have HB1 := bq HB0 hb
 have HX1 := rq HX0 hb
 clear HB0 HX0 hb
 go_wp2_with fail
 refine (mnewdS _).mono ?_
 rintro e w2 ⟨rfl, hb⟩
 have HB2 := bq HB1 hb
 have HX2 := rq HX1 hb
 clear HB1 HX1 hb
 go_wp2_with (refine listStoreD rfl rfl _ _ _ rfl rfl w.heap.size #[.int .i64 0, .int .i64 0, .int .i64 1, .int .i64 0, .int .i64 0, .int .i64 0, .int .i64 0, .int .i64 0, .slice none 0 0, .int .i64 0, .int .i64 1, .bool false, .int .i64 0, .int .i64 0, .string ⟨#[]⟩, .slice none 0 0, .int .i64 0] rfl rfl rfl (by kernel_rfl) HX2.out rfl ?_)
 intro w3 hput
 have HB3 := hq (hput.2.2.2 _ _ (by omega) HB2.out)
 have HX3 := hq hput.1
 clear HB2 HX2 hput
 go_wp2
 refine bodyPost_ret (v := .agg #[.int .i64 0, .int .i64 0, .int .i64 1, .int .i64 0, .int .i64 0, .int .i64 0, .int .i64 0, .int .i64 0, .slice none 0 0, .int .i64 0, .int .i64 1, .bool false, .int .i64 0, .int .i64 0, .string ⟨#[]⟩, .slice none 0 0, .int .i64 0]) (results_cell_row Tryz.results15 _ _ w.heap.size _ _ _ _ rfl HX3.out Tryz.underlying37 rfl (by kernel_rfl)) rfl ⟨rfl, HB3.out⟩
theorem newdI (w : World) : Calls Tryz.prog 44 #[] w fun e w' => e = .returned (.agg #[.int .i64 0, .int .i64 0, .int .i64 1, .int .i64 0, .int .i64 0, .int .i64 0, .int .i64 0, .int .i64 0]) ∧ Below w.heap.size w w' := by
 have HB0 : Hid (Below w.heap.size w (w.alloc (PB 0 0 0 0 0 0 0 0))) := alP _ _
 have HZ0 : Hid ((w.alloc (PB 0 0 0 0 0 0 0 0)).heap[w.heap.size]? = some (PB 0 0 0 0 0 0 0 0)) := heap_new w _
 go_enter Tryz.func44, Tryz.ntmps44
 go_upto_region 1 with fail
 go_wp2_with (refine listStoreP rfl rfl _ _ _ rfl rfl w.heap.size 0 0 1 0 0 0 0 0 rfl rfl HZ0.out ?_)
 intro w9 hr9 ho9 hs9 hB9
 have HF := hq (hB9 _ _ (Nat.le_refl _) HB0.out)
 obtain ⟨⟨q0, q1, q2, q3, q4, q5, q6, q7⟩, _⟩ := box8_cells hr9
 clear ho9 hs9 hB9 hr9
 go_wp2
 refine bodyPost_ret (v := .agg #[.int .i64 0, .int .i64 0, .int .i64 1, .int .i64 0, .int .i64 0, .int .i64 0, .int .i64 0, .int .i64 0]) (by simp only [results, Tryz.results44]; simp [go_sem, q0, q1, q2, q3, q4, q5, q6, q7]) rfl ⟨rfl, HF.out⟩
theorem mnewdI (w : World) : Calls Tryz.prog 45 #[] w fun e w' => e = .returned (.agg #[.int .i64 1, .bool false, .int .i64 0, .int .i64 0, .string ⟨#[]⟩]) ∧ Below w.heap.size w w' := menunewI w
theorem dnewI (w : World) : Calls Tryz.prog 14 #[] w fun e w' => e = .returned (.agg #[.int .i64 0, .int .i64 0, .int .i64 1, .int .i64 0, .int .i64 0, .int .i64 0, .int .i64 0, .int .i64 0, .slice none 0 0, .int .i64 0, .int .i64 1, .bool false, .int .i64 0, .int .i64 0, .string ⟨#[]⟩, .slice none 0 0, .int .i64 0]) ∧ Below w.heap.size w w' := by
 obtain ⟨W0, hW0⟩ : ∃ W0, (w.alloc (dZ)) = W0 := ⟨_, rfl⟩
 have HB0 : Hid (Below w.heap.size w W0) := by rw [← hW0]; exact alM _ _
 have HX0 : Hid (W0.heap[w.heap.size]? = some (dZ)) := by rw [← hW0]; exact heap_new w _
 go_enter Tryz.func14, Tryz.ntmps14
 go_upto_region 1 with fail
 (try rw [hW0])
 clear hW0
 go_wp2_with fail
 refine (newdI _).mono ?_
 rintro e w1 ⟨rfl, hb⟩
 have HB1 := bq HB0 hb
 have HX1 := rq HX0 hb
 clear HB0 HX0 hb
 go_wp2_with fail
 refine (mnewdI _).mono ?_
 rintro e w2 ⟨rfl, hb⟩
 have HB2 := bq HB1 hb
 have HX2 := rq HX1 hb
 clear HB1 HX1 hb
 go_wp2_with (refine listStoreD rfl rfl _ _ _ rfl rfl w.heap.size #[.int .i64 0, .int .i64 0, .int .i64 1, .int .i64 0, .int .i64 0, .int .i64 0, .int .i64 0, .int .i64 0, .slice none 0 0, .int .i64 0, .int .i64 1, .bool false, .int .i64 0, .int .i64 0, .string ⟨#[]⟩, .slice none 0 0, .int .i64 0] rfl rfl rfl (by kernel_rfl) HX2.out rfl ?_)
 intro w3 hput
 have HB3 := hq (hput.2.2.2 _ _ (by omega) HB2.out)
 have HX3 := hq hput.1
 clear HB2 HX2 hput
 go_wp2
 refine bodyPost_ret (v := .agg #[.int .i64 0, .int .i64 0, .int .i64 1, .int .i64 0, .int .i64 0, .int .i64 0, .int .i64 0, .int .i64 0, .slice none 0 0, .int .i64 0, .int .i64 1, .bool false, .int .i64 0, .int .i64 0, .string ⟨#[]⟩, .slice none 0 0, .int .i64 0]) (results_cell_row Tryz.results14 _ _ w.heap.size _ _ _ _ rfl HX3.out Tryz.underlying37 rfl (by kernel_rfl)) rfl ⟨rfl, HB3.out⟩
theorem tickD_eq {D : Dv} {i : Ic} {M : Mn} {l2 : List Od4} {P P3 : Pm} {R al2 nn : Int} {sb : Bool} {Y : List Int} (h1 : allM D.m i.ks = (M, l2)) (h2 : takeL ⟨D.p, D.rf + i.lr, false⟩ (l2 ++ i.lo) = ⟨P, R, sb⟩) (h3 : G.feelA true D.al i.b sb = al2) (h4 : (if true = true ∧ al2 = 0 then G.letG D.l P.wants else 0) = nn) (h5 : (if al2 = 0 then P.give nn else P) = P3) (h6 : G.passL true D.l nn = Y) :
  tickD D i = ⟨P3, Y, al2, M, D.t ++ [(nn, al2, P3.s)], R⟩ := by
 have e1 : ordsD D i = ⟨P, R, sb⟩ := by unfold ordsD; rw [h1]; exact h2
 have e2 : alD D i = al2 := by unfold alD; rw [e1]; exact h3
 have e3 : numD D i = nn := by
  unfold numD
  rw [e1, e2, ← h4]
  by_cases h : al2 = 0
  · rw [if_pos h, if_pos ⟨rfl, h⟩]
  · rw [if_neg h, if_neg (fun k => h k.2)]
 have e4 : pmpD D i = P3 := by unfold pmpD; rw [e1, e2, e3]; exact h5
 unfold tickD
 rw [e4, e3, e2, e1, h1, h6]
structure PT (w w' : World) (D I Z : Obj) : Prop where
 d : w'.heap[w.heap.size]? = some D
 i : w'.heap[w.heap.size + 1]? = some I
 z : w'.heap[w.heap.size + 2]? = some Z
 b : Below w.heap.size w w'
theorem PT.on {w w' w2 : World} {D I Z : Obj} (h : PT w w' D I Z) (hb : Below w'.heap.size w' w2) : PT w w2 D I Z := ⟨row_on h.d hb, row_on h.i hb, row_on h.z hb, bel_on (Nat.le_refl _) h.b hb⟩
theorem PT.drew {w w' : World} {D I Z : Obj} (h : PT w w' D I Z) : PT w w'.drew D I Z := ⟨h.d, h.i, h.z, h.b.drew⟩
theorem PT.put {w w' w2 : World} {D I Z o : Obj} {k : Nat} (h : PT w w' D I Z) (hp : PutM w' w2 k o) (hk : w.heap.size + 2 < k) : PT w w2 D I Z := ⟨hp.far h.d (by omega), hp.far h.i (by omega), hp.far h.z (by omega), hp.2.2.2 _ _ (by omega) h.b⟩
theorem PT.grown {w w' w2 : World} {D I Z : Obj} {r : Option Nat} (h : PT w w' D I Z) (hg : w'.grownBy w2 r) (hr : ∀ m, r = some m → w.heap.size + 2 < m) : PT w w2 D I Z :=
 ⟨row_grown h.d hg (fun e => by have := hr _ e; omega), row_grown h.i hg (fun e => by have := hr _ e; omega), row_grown h.z hg (fun e => by have := hr _ e; omega), h.b.grown hg h.b.size (fun m hm => by have := hr m hm; omega)⟩
theorem PT.lt {w w' : World} {D I Z : Obj} (h : PT w w' D I Z) : w.heap.size + 2 < w'.heap.size := row_lt h.z
theorem box3_cells' {w : World} {k : Nat} {t : TypeId} {x y z : Value} (h : w.heap[k]? = some (.cells #[x, y, z] t)) :
  (w.cell? ⟨k, 0, none⟩ = some x ∧ w.cell? ⟨k, 1, none⟩ = some y ∧ w.cell? ⟨k, 2, none⟩ = some z) := by
 refine ⟨?_, ?_, ?_⟩ <;> simp [World.cell?, h]
theorem storeP_any' {ops : Array Oper} {o : Oper} {a : Act} {K : Act → World → Prop} {Q : Exit → Act → World → Prop} {E : Prop} {w : World} (hw : Region.wanted o (yielded ops a.tmps) = true) (hd : o.dst = none) (x y : Operand) (ty : TypeId) (ho : o.op = .store ty x y) (hty : ty = 29)
  (g : Nat) (vs : Array Value) (hx : a.eval x = .pointer (some ⟨g, 0, none⟩)) (hy : a.eval y = .agg vs) (hv : vs.size = 8) (h1 : vs.all (·.oneCell') = true)
  {u0 u1 u2 u3 u4 u5 u6 u7 : Value} (hg : w.heap[g]? = some (.cells #[u0, u1, u2, u3, u4, u5, u6, u7] 29))
  (h : ∀ w' : World, PutM w w' g (.cells vs 29) → K a w') : if Region.wanted o (yielded ops a.tmps) = true then Oper.wp Tryz.prog o a w K Q else E := by
 subst hty
 rw [if_pos hw]
 refine wp_store_row _ x y ho g _ hx hy _ _ hg (by rw [hv]; kernel_rfl) (by rw [hv]; rfl) h1 ?_
 rw [hd]
 exact h _ (putM_row hg)
theorem al3_row (w : World) (o p q : Obj) : PT w (((w.alloc o).alloc p).alloc q) o p q := by
 obtain ⟨h1, h2, h3, h4, _⟩ := box3m w o p q
 exact ⟨h1, h2, h3, h4⟩
theorem ownu_ne {w : World} {B g n c k : Nat} {t : List Tk3} {x0 x1 x2 x3 x4 x5 x6 x7 : Value} (h : OwnU w B g n c t) (e : g = k) (hr : w.heap[k]? = some (.cells #[x0, x1, x2, x3, x4, x5, x6, x7] 29)) : False := by
 subst e
 rcases h.2 with ⟨hv, _⟩ | ⟨g', cap, cur, hv, _, hh, _⟩
 · cases hv
 ·
  cases hv
  rw [hr] at hh
  cases hh
theorem gown_rd {w : World} {B g n c : Nat} {l : List Int} (h : G.OwnN w B g n c l) : G.Rd w (some ⟨g, 0, none⟩) l := by
 obtain ⟨a, cap, e, _, _, hr⟩ := G.own_rd h
 cases e
 exact hr
theorem ouG_ne {w : World} {B C g n c g2 n2 c2 : Nat} {t : List Tk3} {l : List Int} (h : OwnU w B g n c t) (h2 : G.OwnN w C g2 n2 c2 l) (e : g2 = g) : False := by
 subst e
 rcases h.2 with ⟨hv, _⟩ | ⟨g', cap, cur, hv, _, hh, _⟩
 · cases hv
 ·
  cases hv
  rcases h2.2 with ⟨hv, _⟩ | ⟨g', cap', cur', hv, _, hh2, _⟩
  · cases hv
  ·
   cases hv
   rw [hh] at hh2
   cases hh2
theorem ou_ne {w : World} {B C n c q c2 g : Nat} {t : List Tk3} {A : Option Addr} {l : List Od4} (h : OwnU w B g n c t) (ho : OwnA w C A q c2 l) : ∀ k, (Value.slice (some ⟨g, 0, none⟩) n c).ownBlock = some k → (Value.slice A q c2).ownBlock ≠ some k := fun k e e2 => by
 obtain rfl : g = k := Option.some.inj e
 rcases h.2 with ⟨hv, _⟩ | ⟨g', cap, cur, hv, _, hh, _⟩
 · cases hv
 ·
  cases hv
  exact ho.ne hh (fun cur e3 => by cases e3) e2.symm
theorem link_empty (L : ByteArray) : (L.toList = []) ↔ L.size = 0 := by
 rw [ByteArray.toList_eq]
 constructor
 ·
  intro h
  show L.data.size = 0
  rw [← Array.length_toList, h]
  rfl
 ·
  intro h
  have h2 : L.data.size = 0 := h
  exact List.length_eq_zero_iff.1 (by rw [Array.length_toList]; exact h2)
end Go.Proofs.YtfhhnelffldggaaGreatDoor
