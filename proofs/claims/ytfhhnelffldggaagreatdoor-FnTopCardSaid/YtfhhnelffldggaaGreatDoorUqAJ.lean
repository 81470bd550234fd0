/-
  Menus of the specification: PressAll.
-/
import Derived.Test.YtfhhnelffldggaaGreatDoorUqAH
import Derived.Test.YtfhhnelffldggaaGreatDoorUqAI
import Derived.Deep.CutRange
set_option maxRecDepth 100000
set_option maxHeartbeats 16000000
namespace Go.Proofs.YtfhhnelffldggaaGreatDoor
open Go.RowKit Go.PlainAid
set_option linter.unusedVariables false
set_option linter.unusedSimpArgs false
theorem aqMnL {p : Prop} (h : p) : Hid p := h
theorem ky5 {w w' : World} {Y : Nat} {x0 x1 x2 x3 x4 : Value} {T : TypeId} (h : w'.heap[Y]? = some (.cells #[x0, x1, x2, x3, x4] T)) (hb : Below w.heap.size w w') : w'.cell? ⟨Y, 0, none⟩ = some x0 ∧ w'.cell? ⟨Y, 1, none⟩ = some x1 ∧ w'.cell? ⟨Y, 2, none⟩ = some x2 ∧ w'.cell? ⟨Y, 3, none⟩ = some x3 ∧ w'.cell? ⟨Y, 4, none⟩ = some x4 ∧ Below w.heap.size w w' := by
 have k := box5_cells h
 exact ⟨k.1.1, k.1.2.1, k.1.2.2.1, k.1.2.2.2.1, k.1.2.2.2.2, hb⟩
structure PA (w w' : World) (M : Mn) (g n c : Nat) (l : List Od4) : Prop where
 p : w'.heap[w.heap.size]? = some (.cells #[.int .i64 M.a, .bool M.b, .int .i64 M.n, .int .i64 M.d, .string ⟨M.s.toArray⟩] 34)
 z : w'.heap[w.heap.size + 1]? = some (.cells #[.int .i64 0, .bool false, .int .i64 0, .int .i64 0, .string ⟨#[]⟩] 34)
 o : OwnE w' (w.heap.size + 2) g n c l
 b : Below w.heap.size w w'
theorem PA.on {w w' w2 : World} {M : Mn} {g n c : Nat} {l : List Od4} (h : PA w w' M g n c l) (hb : Below w'.heap.size w' w2) : PA w w2 M g n c l :=
 ⟨row_on h.p hb, row_on h.z hb, h.o.on hb, bel_on (Nat.le_refl _) h.b hb⟩
theorem PA.drew {w w' : World} {M : Mn} {g n c : Nat} {l : List Od4} (h : PA w w' M g n c l) : PA w w'.drew M g n c l := ⟨h.p, h.z, h.o, h.b.drew⟩
theorem PA.put {w w' w2 : World} {M : Mn} {g n c k : Nat} {l : List Od4} {ob : Obj} (h : PA w w' M g n c l) (hp : PutM w' w2 k ob) (hk : w.heap.size + 1 < k) (hg : g ≠ k) : PA w w2 M g n c l :=
 ⟨hp.far h.p (by omega), hp.far h.z (by omega), h.o.put hp hg, hp.2.2.2 _ _ (by omega) h.b⟩
theorem PA.grown {w w' w2 : World} {M : Mn} {g n c g' n' c' : Nat} {l l' : List Od4} (h : PA w w' M g n c l) (hg : w'.grownBy w2 (some g)) (ho : OwnE w2 (w.heap.size + 2) g' n' c' l') : PA w w2 M g' n' c' l' := by
 have hge := h.o.ge
 have b : ∀ m o, w'.heap[m]? = some o → m ≠ g → w2.heap[m]? = some o := fun m o hm hne => (hg.block m (row_lt hm) (fun e => hne (Option.some.inj e))).trans hm
 exact ⟨b _ _ h.p (by omega), b _ _ h.z (by omega), ho, h.b.grown hg h.b.size (fun m hm => by cases hm; omega)⟩
theorem xy_ne {v : World} {X Y : Nat} {x0 x1 x2 x3 x4 y0 y1 y2 y3 : Value} {T U : TypeId} (h : v.heap[X]? = some (.cells #[x0, x1, x2, x3, x4] T)) (h2 : v.heap[Y]? = some (.cells #[y0, y1, y2, y3] U)) : X ≠ Y := by
 rintro rfl
 rw [h] at h2
 simp at h2
theorem PA.conj {w w' : World} {M : Mn} {g n c : Nat} {l : List Od4} (h : PA w w' M g n c l) : (fun w' => w'.cell? ⟨w.heap.size, 0, none⟩ = some (.int .i64 M.a) ∧ w'.cell? ⟨w.heap.size, 1, none⟩ = some (.bool M.b) ∧ w'.cell? ⟨w.heap.size, 2, none⟩ = some (.int .i64 M.n) ∧ w'.cell? ⟨w.heap.size, 3, none⟩ = some (.int .i64 M.d) ∧ w'.cell? ⟨w.heap.size, 4, none⟩ = some (.string ⟨M.s.toArray⟩) ∧ Below w.heap.size w w') w' := ky5 h.p h.b
theorem PA.lt {w w' : World} {M : Mn} {g n c : Nat} {l : List Od4} (h : PA w w' M g n c l) : w.heap.size + 1 < w'.heap.size ∧ g < w'.heap.size ∧ w.heap.size + 2 ≤ g := ⟨row_lt h.z, h.o.lt, h.o.ge⟩
theorem ownE_empty' (w : World) (B k : Nat) (hk : w.heap.size = k) (hB : B ≤ k) : OwnE (w.alloc (.cells #[] 82)) B k 0 0 [] := by subst hk; exact ownE_empty w B hB
theorem pressAllS (m : Mn) (ks : List UInt8) (R : Mn × List Od4) (q : Nat) (hR : allM m ks = R) (hq : R.2.length = q) (hl : ks.length ≤ 1048576) (w : World) :
  Calls Tryz.prog 50 #[mnV m, .string ⟨ks.toArray⟩] w fun e w' => ∃ g c, e = .returned (.tuple #[mnV R.1, .slice (some ⟨g, 0, none⟩) q c]) ∧ OwnE w' w.heap.size g q c R.2 ∧ Below w.heap.size w w' := by
 obtain ⟨K, hK⟩ : ∃ K : ByteArray, (⟨ks.toArray⟩ : ByteArray) = K := ⟨_, rfl⟩
 rw [hK]
 have hsz := txt_size hK
 have HBT : Hid (∀ k (h : k < ks.length), bt K k = (ks[k].toNat : Int)) := txt_bt hK
 have hbt := get_bt K
 have HR := aqMnL hR
 have HQ := aqMnL hq
 clear hR hq hK
 unfold mnV
 have h1 := heap_new w (.cells #[.int .i64 m.a, .bool m.b, .int .i64 m.n, .int .i64 m.d, .string ⟨m.s.toArray⟩] 34)
 have h2 := heap_new (w.alloc (.cells #[.int .i64 m.a, .bool m.b, .int .i64 m.n, .int .i64 m.d, .string ⟨m.s.toArray⟩] 34)) (.cells #[.int .i64 0, .bool false, .int .i64 0, .int .i64 0, .string ⟨#[]⟩] 34)
 rw [show (w.alloc (.cells #[.int .i64 m.a, .bool m.b, .int .i64 m.n, .int .i64 m.d, .string ⟨m.s.toArray⟩] 34)).heap.size = w.heap.size + 1 by simp] at h2
 have HPA : Hid (PA w (((w.alloc (.cells #[.int .i64 m.a, .bool m.b, .int .i64 m.n, .int .i64 m.d, .string ⟨m.s.toArray⟩] 34)).alloc (.cells #[.int .i64 0, .bool false, .int .i64 0, .int .i64 0, .string ⟨#[]⟩] 34)).alloc (.cells #[] 82)) m (w.heap.size + 2) 0 0 []) :=
  ⟨row_on (row_on h1 (alM _ _)) (alM _ _), row_on h2 (alM _ _), ownE_empty' _ _ _ (by simp) (by simp), bel_on (Nat.le_refl _) (bel_on (Nat.le_refl _) (alM _ _) (alM _ _)) (alM _ _)⟩
 clear h1 h2
 go_enter Tryz.func50, Tryz.ntmps50
 go_wp2
 go_loopg [6, 7] K.size (fun gk v i wr => ∃ (j g n c : Nat) (M : Mn) (l : List Od4), j + gk = K.size ∧ v = .slice (some ⟨g, 0, none⟩) n c ∧ i = .int .i64 j ∧ Hid (allM m (ks.take j) = (M, l)) ∧ Hid (PA w wr M g n c l))
 case atStart => exact ⟨0, w.heap.size + 2, 0, 0, m, [], by omega, rfl, rfl, rfl, HPA⟩
 case round =>
  clear HPA
  obtain ⟨j, g, n, c, M, l, hj, rfl, rfl, HM, HPA⟩ := hrel
  by_cases hlt : j < K.size
  ·
   have hjl : j < ks.length := by omega
   have hb0 := HBT.out j hjl
   have b0 := bt_nonneg K j
   have b1 := bt_le K j
   have q1 : IntKind.i64.wrap (bt K j) = bt K j := wrap_in (by omega) (by omega)
   have j0 : (0 : Int) ≤ j := by omega
   have jn : (j : Int) < K.size := by omega
   have p0 := box5_cells HPA.out.p
   obtain ⟨p, hp⟩ : ∃ p, pressM M (bt K j) = p := ⟨_, rfl⟩
   have HPR := aqMnL hp
   have hnl := HPA.out.o.len
   have hnj : l.length ≤ j := by have h := allM_len (ks.take j) m; rw [HM.out] at h; simp at h; omega
   have HM' : Hid (allM m (ks.take (j + 1)) = (p.m, if p.t = true then l ++ [(p.k, p.n, p.d, p.v)] else l)) := by
    show _ = _
    rw [allM_take hjl, HM.out, ← hb0, hp]
   clear hp HM hb0 hjl
   go_upto_region 5 with fail
   go_cut [8, 9, 10] from 12 to 33 (fun v8 v9 v10 wc => ∃ X Y : Nat, v8 = .pointer (some ⟨X, 0, none⟩) ∧ v9 = .pointer (some ⟨Y, 0, none⟩) ∧ v10 = .bool p.t ∧ Hid (PA w wc M g n c l) ∧ Hid (wc.heap[X]? = some (.cells #[.int .i64 p.m.a, .bool p.m.b, .int .i64 p.m.n, .int .i64 p.m.d, .string ⟨p.m.s.toArray⟩] 34)) ∧ Hid (wc.heap[Y]? = some (oB p.k p.n p.d p.v)))
   case first =>
    clear p0
    have HPA0 : Hid (PA w wr.drew M g n c l) := HPA.out.drew
    refine wp_region_held_drew (S := fun w' => w'.cell? ⟨w.heap.size, 0, none⟩ = some (.int .i64 M.a) ∧ w'.cell? ⟨w.heap.size, 1, none⟩ = some (.bool M.b) ∧ w'.cell? ⟨w.heap.size, 2, none⟩ = some (.int .i64 M.n) ∧ w'.cell? ⟨w.heap.size, 3, none⟩ = some (.int .i64 M.d) ∧ w'.cell? ⟨w.heap.size, 4, none⟩ = some (.string ⟨M.s.toArray⟩) ∧ Below w.heap.size w w') (by kernel_rfl) HPA0.out.conj (fun hHeld0 => ?_)
    generalize wr.drew = w0 at *
    refine tkQ 0 ?_ rfl ?_ ?_
    rotate_left
    · intro w_ hSw; (try dsimp only at hSw); go_simp <;> with_reducible rfl
    try simp only [Act.put, sQ]
    refine tkQ 1 ?_ rfl ?_ ?_
    rotate_left
    · intro w_ hSw; (try dsimp only at hSw); go_simp <;> with_reducible rfl
    try simp only [Act.put, sQ]
    refine tkQ 2 ?_ rfl ?_ ?_
    rotate_left
    · intro w_ hSw; (try dsimp only at hSw); go_simp <;> with_reducible rfl
    try simp only [Act.put, sQ]
    refine tkQ 3 ?_ rfl ?_ ?_
    rotate_left
    · intro w_ hSw; (try dsimp only at hSw); go_simp <;> with_reducible rfl
    try simp only [Act.put, sQ]
    refine tkQ 4 ?_ rfl ?_ ?_
    rotate_left
    · intro w_ hSw; (try dsimp only at hSw); go_simp <;> with_reducible rfl
    try simp only [Act.put, sQ]
    refine wpAnyH_ready (rs := [5, 10, 11]) (by kernel_rfl) (by simp) ?_
    refine AllReadyH.cons rfl (fun J hJ => ?_) (AllReadyH.cons rfl (fun J hJ => ?_) (AllReadyH.cons rfl (fun J hJ => ?_) AllReadyH.nil))
    ·
     go_simp
     go_at_call 102
     refine (pressS M (bt K j) p HPR.out _).mono ?_
     rintro e w1 ⟨rfl, hbc⟩
     have HPA1 := aqMnL (HPA0.out.on hbc)
     unfold mnV ordV
     clear hbc HPA0
     go_wp2_with fail
     refine hJ.out _ _ HPA1.out.conj (fun hHeld1 => ?_)
     clear hJ J hHeld0
     try simp only [Act.put, sQ]
     refine tkQ 6 ?_ rfl ?_ ?_
     rotate_left
     · intro w_ hSw; (try dsimp only at hSw); go_simp <;> with_reducible rfl
     try simp only [Act.put, sQ]
     refine tkQ 7 ?_ rfl ?_ ?_
     rotate_left
     · intro w_ hSw; (try dsimp only at hSw); go_simp <;> with_reducible rfl
     try simp only [Act.put, sQ]
     refine tkQ 8 ?_ rfl ?_ ?_
     rotate_left
     · intro w_ hSw; (try dsimp only at hSw); go_simp <;> with_reducible rfl
     try simp only [Act.put, sQ]
     refine tkQ 9 ?_ rfl ?_ ?_
     rotate_left
     · intro w_ hSw; (try dsimp only at hSw); go_simp <;> with_reducible rfl
     try simp only [Act.put, sQ]
     refine wpAnyH_ready (rs := [10, 11]) (by kernel_rfl) (by simp) ?_
     refine AllReadyH.cons rfl (fun J hJ => ?_) (AllReadyH.cons rfl (fun J hJ => ?_) AllReadyH.nil)
     ·
      go_simp
      have hltX := HPA1.out.lt
      have HPA2 : Hid (PA w (w1.alloc (.cells #[.int .i64 0, .bool false, .int .i64 0, .int .i64 0, .string ⟨#[]⟩] 34)) M g n c l) := HPA1.out.on (alM _ _)
      have HX2 : Hid ((w1.alloc (.cells #[.int .i64 0, .bool false, .int .i64 0, .int .i64 0, .string ⟨#[]⟩] 34)).heap[w1.heap.size]? = some (.cells #[.int .i64 0, .bool false, .int .i64 0, .int .i64 0, .string ⟨#[]⟩] 34)) := heap_new w1 _
      refine hJ.out _ _ HPA2.out.conj (fun hHeld2 => ?_)
      clear hJ J hHeld1 HPA1
      try simp only [Act.put, sQ]
      generalize w1.alloc (.cells #[.int .i64 0, .bool false, .int .i64 0, .int .i64 0, .string ⟨#[]⟩] 34) = w2 at *
      generalize w1.heap.size = X at *
      refine wpAnyH_ready (rs := [11]) (by kernel_rfl) (by simp) ?_
      refine AllReadyH.cons rfl (fun J hJ => ?_) AllReadyH.nil
      ·
       go_simp
       have hltY := HPA2.out.lt
       have HPA3 : Hid (PA w (w2.alloc (oB 0 0 0 0)) M g n c l) := HPA2.out.on (alM _ _)
       have HX3 : Hid ((w2.alloc (oB 0 0 0 0)).heap[X]? = some (.cells #[.int .i64 0, .bool false, .int .i64 0, .int .i64 0, .string ⟨#[]⟩] 34)) := row_on HX2.out (alM _ _)
       have HY3 : Hid ((w2.alloc (oB 0 0 0 0)).heap[w2.heap.size]? = some (oB 0 0 0 0)) := heap_new w2 _
       refine hJ.out _ _ HPA3.out.conj (fun hHeld3 => ?_)
       clear hJ J hHeld2 HPA2 HX2
       try simp only [Act.put, sQ]
       generalize w2.alloc (oB 0 0 0 0) = w3 at *
       generalize w2.heap.size = Y at *
       have hXY := xy_ne HX3.out HY3.out
       refine wpAnyH_ready (rs := [12]) (by kernel_rfl) (by simp) ?_
       refine AllReadyH.cons rfl (fun J hJ => ?_) AllReadyH.nil
       refine storeM_any rfl rfl _ _ _ rfl rfl X (p.m.a) (p.m.b) (p.m.n) (p.m.d) (⟨p.m.s.toArray⟩) rfl rfl HX3.out ?_
       intro w8 hput
       have HPA8 : Hid (PA w w8 M g n c l) := HPA3.out.put hput (by omega) (by omega)
       have HX8 := aqMnL hput.1
       have HY8 : Hid (w8.heap[Y]? = some (oB 0 0 0 0)) := hput.far HY3.out hXY.symm
       clear hput HPA3 HX3 HY3
       refine hJ.out _ _ HPA8.out.conj (fun hHeld8 => ?_)
       clear hJ J hHeld3
       try simp only [Act.put, sQ]
       refine wpAnyH_ready (rs := [13]) (by kernel_rfl) (by simp) ?_
       refine AllReadyH.cons rfl (fun J hJ => ?_) AllReadyH.nil
       refine storeO_any rfl rfl _ _ _ rfl rfl Y (p.k) (p.n) (p.d) (p.v) rfl rfl HY8.out ?_
       intro w9 hput
       have HPA9 : Hid (PA w w9 M g n c l) := HPA8.out.put hput (by omega) (by omega)
       have HX9 : Hid (w9.heap[X]? = some (.cells #[.int .i64 p.m.a, .bool p.m.b, .int .i64 p.m.n, .int .i64 p.m.d, .string ⟨p.m.s.toArray⟩] 34)) := hput.far HX8.out hXY
       have HY9 := aqMnL hput.1
       clear hput HPA8 HX8 HY8
       refine hJ.out _ _ HPA9.out.conj (fun hHeld9 => ?_)
       clear hJ J hHeld8
       try simp only [Act.put, sQ]
       refine tkQ 14 ?_ rfl ?_ ?_
       rotate_left
       · intro w_ hSw; (try dsimp only at hSw); go_simp <;> with_reducible rfl
       try simp only [Act.put, sQ]
       clear hHeld9
       refine wpAnyH_done (by kernel_rfl) ?_ _
       (try go_wp2_with fail)
       go_meet
       exact ⟨X, Y, rfl, rfl, rfl, HPA9, HX9, HY9⟩
     ·
      go_simp
      have hltY := HPA1.out.lt
      have HPA2 : Hid (PA w (w1.alloc (oB 0 0 0 0)) M g n c l) := HPA1.out.on (alM _ _)
      have HY2 : Hid ((w1.alloc (oB 0 0 0 0)).heap[w1.heap.size]? = some (oB 0 0 0 0)) := heap_new w1 _
      refine hJ.out _ _ HPA2.out.conj (fun hHeld2 => ?_)
      clear hJ J hHeld1 HPA1
      try simp only [Act.put, sQ]
      generalize w1.alloc (oB 0 0 0 0) = w2 at *
      generalize w1.heap.size = Y at *
      refine wpAnyH_ready (rs := [10]) (by kernel_rfl) (by simp) ?_
      refine AllReadyH.cons rfl (fun J hJ => ?_) AllReadyH.nil
      ·
       go_simp
       have hltX := HPA2.out.lt
       have HPA3 : Hid (PA w (w2.alloc (.cells #[.int .i64 0, .bool false, .int .i64 0, .int .i64 0, .string ⟨#[]⟩] 34)) M g n c l) := HPA2.out.on (alM _ _)
       have HY3 : Hid ((w2.alloc (.cells #[.int .i64 0, .bool false, .int .i64 0, .int .i64 0, .string ⟨#[]⟩] 34)).heap[Y]? = some (oB 0 0 0 0)) := row_on HY2.out (alM _ _)
       have HX3 : Hid ((w2.alloc (.cells #[.int .i64 0, .bool false, .int .i64 0, .int .i64 0, .string ⟨#[]⟩] 34)).heap[w2.heap.size]? = some (.cells #[.int .i64 0, .bool false, .int .i64 0, .int .i64 0, .string ⟨#[]⟩] 34)) := heap_new w2 _
       refine hJ.out _ _ HPA3.out.conj (fun hHeld3 => ?_)
       clear hJ J hHeld2 HPA2 HY2
       try simp only [Act.put, sQ]
       generalize w2.alloc (.cells #[.int .i64 0, .bool false, .int .i64 0, .int .i64 0, .string ⟨#[]⟩] 34) = w3 at *
       generalize w2.heap.size = X at *
       have hXY := xy_ne HX3.out HY3.out
       refine wpAnyH_ready (rs := [12]) (by kernel_rfl) (by simp) ?_
       refine AllReadyH.cons rfl (fun J hJ => ?_) AllReadyH.nil
       refine storeM_any rfl rfl _ _ _ rfl rfl X (p.m.a) (p.m.b) (p.m.n) (p.m.d) (⟨p.m.s.toArray⟩) rfl rfl HX3.out ?_
       intro w8 hput
       have HPA8 : Hid (PA w w8 M g n c l) := HPA3.out.put hput (by omega) (by omega)
       have HX8 := aqMnL hput.1
       have HY8 : Hid (w8.heap[Y]? = some (oB 0 0 0 0)) := hput.far HY3.out hXY.symm
       clear hput HPA3 HX3 HY3
       refine hJ.out _ _ HPA8.out.conj (fun hHeld8 => ?_)
       clear hJ J hHeld3
       try simp only [Act.put, sQ]
       refine wpAnyH_ready (rs := [13]) (by kernel_rfl) (by simp) ?_
       refine AllReadyH.cons rfl (fun J hJ => ?_) AllReadyH.nil
       refine storeO_any rfl rfl _ _ _ rfl rfl Y (p.k) (p.n) (p.d) (p.v) rfl rfl HY8.out ?_
       intro w9 hput
       have HPA9 : Hid (PA w w9 M g n c l) := HPA8.out.put hput (by omega) (by omega)
       have HX9 : Hid (w9.heap[X]? = some (.cells #[.int .i64 p.m.a, .bool p.m.b, .int .i64 p.m.n, .int .i64 p.m.d, .string ⟨p.m.s.toArray⟩] 34)) := hput.far HX8.out hXY
       have HY9 := aqMnL hput.1
       clear hput HPA8 HX8 HY8
       refine hJ.out _ _ HPA9.out.conj (fun hHeld9 => ?_)
       clear hJ J hHeld8
       try simp only [Act.put, sQ]
       refine tkQ 14 ?_ rfl ?_ ?_
       rotate_left
       · intro w_ hSw; (try dsimp only at hSw); go_simp <;> with_reducible rfl
       try simp only [Act.put, sQ]
       clear hHeld9
       refine wpAnyH_done (by kernel_rfl) ?_ _
       (try go_wp2_with fail)
       go_meet
       exact ⟨X, Y, rfl, rfl, rfl, HPA9, HX9, HY9⟩
    ·
     go_simp
     have hltX := HPA0.out.lt
     have HPA1 : Hid (PA w (w0.alloc (.cells #[.int .i64 0, .bool false, .int .i64 0, .int .i64 0, .string ⟨#[]⟩] 34)) M g n c l) := HPA0.out.on (alM _ _)
     have HX1 : Hid ((w0.alloc (.cells #[.int .i64 0, .bool false, .int .i64 0, .int .i64 0, .string ⟨#[]⟩] 34)).heap[w0.heap.size]? = some (.cells #[.int .i64 0, .bool false, .int .i64 0, .int .i64 0, .string ⟨#[]⟩] 34)) := heap_new w0 _
     refine hJ.out _ _ HPA1.out.conj (fun hHeld1 => ?_)
     clear hJ J hHeld0 HPA0
     try simp only [Act.put, sQ]
     generalize w0.alloc (.cells #[.int .i64 0, .bool false, .int .i64 0, .int .i64 0, .string ⟨#[]⟩] 34) = w1 at *
     generalize w0.heap.size = X at *
     refine wpAnyH_ready (rs := [5, 11]) (by kernel_rfl) (by simp) ?_
     refine AllReadyH.cons rfl (fun J hJ => ?_) (AllReadyH.cons rfl (fun J hJ => ?_) AllReadyH.nil)
     ·
      go_simp
      go_at_call 102
      refine (pressS M (bt K j) p HPR.out _).mono ?_
      rintro e w2 ⟨rfl, hbc⟩
      have HPA2 := aqMnL (HPA1.out.on hbc)
      have HX2 := rq HX1 hbc
      unfold mnV ordV
      clear hbc HPA1 HX1
      go_wp2_with fail
      refine hJ.out _ _ HPA2.out.conj (fun hHeld2 => ?_)
      clear hJ J hHeld1
      try simp only [Act.put, sQ]
      refine tkQ 6 ?_ rfl ?_ ?_
      rotate_left
      · intro w_ hSw; (try dsimp only at hSw); go_simp <;> with_reducible rfl
      try simp only [Act.put, sQ]
      refine tkQ 7 ?_ rfl ?_ ?_
      rotate_left
      · intro w_ hSw; (try dsimp only at hSw); go_simp <;> with_reducible rfl
      try simp only [Act.put, sQ]
      refine tkQ 8 ?_ rfl ?_ ?_
      rotate_left
      · intro w_ hSw; (try dsimp only at hSw); go_simp <;> with_reducible rfl
      try simp only [Act.put, sQ]
      refine tkQ 9 ?_ rfl ?_ ?_
      rotate_left
      · intro w_ hSw; (try dsimp only at hSw); go_simp <;> with_reducible rfl
      try simp only [Act.put, sQ]
      refine wpAnyH_ready (rs := [11]) (by kernel_rfl) (by simp) ?_
      refine AllReadyH.cons rfl (fun J hJ => ?_) AllReadyH.nil
      ·
       go_simp
       have hltY := HPA2.out.lt
       have HPA3 : Hid (PA w (w2.alloc (oB 0 0 0 0)) M g n c l) := HPA2.out.on (alM _ _)
       have HX3 : Hid ((w2.alloc (oB 0 0 0 0)).heap[X]? = some (.cells #[.int .i64 0, .bool false, .int .i64 0, .int .i64 0, .string ⟨#[]⟩] 34)) := row_on HX2.out (alM _ _)
       have HY3 : Hid ((w2.alloc (oB 0 0 0 0)).heap[w2.heap.size]? = some (oB 0 0 0 0)) := heap_new w2 _
       refine hJ.out _ _ HPA3.out.conj (fun hHeld3 => ?_)
       clear hJ J hHeld2 HPA2 HX2
       try simp only [Act.put, sQ]
       generalize w2.alloc (oB 0 0 0 0) = w3 at *
       generalize w2.heap.size = Y at *
       have hXY := xy_ne HX3.out HY3.out
       refine wpAnyH_ready (rs := [12]) (by kernel_rfl) (by simp) ?_
       refine AllReadyH.cons rfl (fun J hJ => ?_) AllReadyH.nil
       refine storeM_any rfl rfl _ _ _ rfl rfl X (p.m.a) (p.m.b) (p.m.n) (p.m.d) (⟨p.m.s.toArray⟩) rfl rfl HX3.out ?_
       intro w8 hput
       have HPA8 : Hid (PA w w8 M g n c l) := HPA3.out.put hput (by omega) (by omega)
       have HX8 := aqMnL hput.1
       have HY8 : Hid (w8.heap[Y]? = some (oB 0 0 0 0)) := hput.far HY3.out hXY.symm
       clear hput HPA3 HX3 HY3
       refine hJ.out _ _ HPA8.out.conj (fun hHeld8 => ?_)
       clear hJ J hHeld3
       try simp only [Act.put, sQ]
       refine wpAnyH_ready (rs := [13]) (by kernel_rfl) (by simp) ?_
       refine AllReadyH.cons rfl (fun J hJ => ?_) AllReadyH.nil
       refine storeO_any rfl rfl _ _ _ rfl rfl Y (p.k) (p.n) (p.d) (p.v) rfl rfl HY8.out ?_
       intro w9 hput
       have HPA9 : Hid (PA w w9 M g n c l) := HPA8.out.put hput (by omega) (by omega)
       have HX9 : Hid (w9.heap[X]? = some (.cells #[.int .i64 p.m.a, .bool p.m.b, .int .i64 p.m.n, .int .i64 p.m.d, .string ⟨p.m.s.toArray⟩] 34)) := hput.far HX8.out hXY
       have HY9 := aqMnL hput.1
       clear hput HPA8 HX8 HY8
       refine hJ.out _ _ HPA9.out.conj (fun hHeld9 => ?_)
       clear hJ J hHeld8
       try simp only [Act.put, sQ]
       refine tkQ 14 ?_ rfl ?_ ?_
       rotate_left
       · intro w_ hSw; (try dsimp only at hSw); go_simp <;> with_reducible rfl
       try simp only [Act.put, sQ]
       clear hHeld9
       refine wpAnyH_done (by kernel_rfl) ?_ _
       (try go_wp2_with fail)
       go_meet
       exact ⟨X, Y, rfl, rfl, rfl, HPA9, HX9, HY9⟩
     ·
      go_simp
      have hltY := HPA1.out.lt
      have HPA2 : Hid (PA w (w1.alloc (oB 0 0 0 0)) M g n c l) := HPA1.out.on (alM _ _)
      have HX2 : Hid ((w1.alloc (oB 0 0 0 0)).heap[X]? = some (.cells #[.int .i64 0, .bool false, .int .i64 0, .int .i64 0, .string ⟨#[]⟩] 34)) := row_on HX1.out (alM _ _)
      have HY2 : Hid ((w1.alloc (oB 0 0 0 0)).heap[w1.heap.size]? = some (oB 0 0 0 0)) := heap_new w1 _
      refine hJ.out _ _ HPA2.out.conj (fun hHeld2 => ?_)
      clear hJ J hHeld1 HPA1 HX1
      try simp only [Act.put, sQ]
      generalize w1.alloc (oB 0 0 0 0) = w2 at *
      generalize w1.heap.size = Y at *
      refine wpAnyH_ready (rs := [5]) (by kernel_rfl) (by simp) ?_
      refine AllReadyH.cons rfl (fun J hJ => ?_) AllReadyH.nil
      ·
       go_simp
       go_at_call 102
       refine (pressS M (bt K j) p HPR.out _).mono ?_
       rintro e w3 ⟨rfl, hbc⟩
       have HPA3 := aqMnL (HPA2.out.on hbc)
       have HX3 := rq HX2 hbc
       have HY3 := rq HY2 hbc
       unfold mnV ordV
       clear hbc HPA2 HX2 HY2
       go_wp2_with fail
       refine hJ.out _ _ HPA3.out.conj (fun hHeld3 => ?_)
       clear hJ J hHeld2
       try simp only [Act.put, sQ]
       refine tkQ 6 ?_ rfl ?_ ?_
       rotate_left
       · intro w_ hSw; (try dsimp only at hSw); go_simp <;> with_reducible rfl
       try simp only [Act.put, sQ]
       refine tkQ 7 ?_ rfl ?_ ?_
       rotate_left
       · intro w_ hSw; (try dsimp only at hSw); go_simp <;> with_reducible rfl
       try simp only [Act.put, sQ]
       refine tkQ 8 ?_ rfl ?_ ?_
       rotate_left
       · intro w_ hSw; (try dsimp only at hSw); go_simp <;> with_reducible rfl
       try simp only [Act.put, sQ]
       refine tkQ 9 ?_ rfl ?_ ?_
       rotate_left
       · intro w_ hSw; (try dsimp only at hSw); go_simp <;> with_reducible rfl
       try simp only [Act.put, sQ]
       have hXY := xy_ne HX3.out HY3.out
       refine wpAnyH_ready (rs := [12]) (by kernel_rfl) (by simp) ?_
       refine AllReadyH.cons rfl (fun J hJ => ?_) AllReadyH.nil
       refine storeM_any rfl rfl _ _ _ rfl rfl X (p.m.a) (p.m.b) (p.m.n) (p.m.d) (⟨p.m.s.toArray⟩) rfl rfl HX3.out ?_
       intro w8 hput
       have HPA8 : Hid (PA w w8 M g n c l) := HPA3.out.put hput (by omega) (by omega)
       have HX8 := aqMnL hput.1
       have HY8 : Hid (w8.heap[Y]? = some (oB 0 0 0 0)) := hput.far HY3.out hXY.symm
       clear hput HPA3 HX3 HY3
       refine hJ.out _ _ HPA8.out.conj (fun hHeld8 => ?_)
       clear hJ J hHeld3
       try simp only [Act.put, sQ]
       refine wpAnyH_ready (rs := [13]) (by kernel_rfl) (by simp) ?_
       refine AllReadyH.cons rfl (fun J hJ => ?_) AllReadyH.nil
       refine storeO_any rfl rfl _ _ _ rfl rfl Y (p.k) (p.n) (p.d) (p.v) rfl rfl HY8.out ?_
       intro w9 hput
       have HPA9 : Hid (PA w w9 M g n c l) := HPA8.out.put hput (by omega) (by omega)
       have HX9 : Hid (w9.heap[X]? = some (.cells #[.int .i64 p.m.a, .bool p.m.b, .int .i64 p.m.n, .int .i64 p.m.d, .string ⟨p.m.s.toArray⟩] 34)) := hput.far HX8.out hXY
       have HY9 := aqMnL hput.1
       clear hput HPA8 HX8 HY8
       refine hJ.out _ _ HPA9.out.conj (fun hHeld9 => ?_)
       clear hJ J hHeld8
       try simp only [Act.put, sQ]
       refine tkQ 14 ?_ rfl ?_ ?_
       rotate_left
       · intro w_ hSw; (try dsimp only at hSw); go_simp <;> with_reducible rfl
       try simp only [Act.put, sQ]
       clear hHeld9
       refine wpAnyH_done (by kernel_rfl) ?_ _
       (try go_wp2_with fail)
       go_meet
       exact ⟨X, Y, rfl, rfl, rfl, HPA9, HX9, HY9⟩
    ·
     go_simp
     have hltY := HPA0.out.lt
     have HPA1 : Hid (PA w (w0.alloc (oB 0 0 0 0)) M g n c l) := HPA0.out.on (alM _ _)
     have HY1 : Hid ((w0.alloc (oB 0 0 0 0)).heap[w0.heap.size]? = some (oB 0 0 0 0)) := heap_new w0 _
     refine hJ.out _ _ HPA1.out.conj (fun hHeld1 => ?_)
     clear hJ J hHeld0 HPA0
     try simp only [Act.put, sQ]
     generalize w0.alloc (oB 0 0 0 0) = w1 at *
     generalize w0.heap.size = Y at *
     refine wpAnyH_ready (rs := [5, 10]) (by kernel_rfl) (by simp) ?_
     refine AllReadyH.cons rfl (fun J hJ => ?_) (AllReadyH.cons rfl (fun J hJ => ?_) AllReadyH.nil)
     ·
      go_simp
      go_at_call 102
      refine (pressS M (bt K j) p HPR.out _).mono ?_
      rintro e w2 ⟨rfl, hbc⟩
      have HPA2 := aqMnL (HPA1.out.on hbc)
      have HY2 := rq HY1 hbc
      unfold mnV ordV
      clear hbc HPA1 HY1
      go_wp2_with fail
      refine hJ.out _ _ HPA2.out.conj (fun hHeld2 => ?_)
      clear hJ J hHeld1
      try simp only [Act.put, sQ]
      refine tkQ 6 ?_ rfl ?_ ?_
      rotate_left
      · intro w_ hSw; (try dsimp only at hSw); go_simp <;> with_reducible rfl
      try simp only [Act.put, sQ]
      refine tkQ 7 ?_ rfl ?_ ?_
      rotate_left
      · intro w_ hSw; (try dsimp only at hSw); go_simp <;> with_reducible rfl
      try simp only [Act.put, sQ]
      refine tkQ 8 ?_ rfl ?_ ?_
      rotate_left
      · intro w_ hSw; (try dsimp only at hSw); go_simp <;> with_reducible rfl
      try simp only [Act.put, sQ]
      refine tkQ 9 ?_ rfl ?_ ?_
      rotate_left
      · intro w_ hSw; (try dsimp only at hSw); go_simp <;> with_reducible rfl
      try simp only [Act.put, sQ]
      refine wpAnyH_ready (rs := [10]) (by kernel_rfl) (by simp) ?_
      refine AllReadyH.cons rfl (fun J hJ => ?_) AllReadyH.nil
      ·
       go_simp
       have hltX := HPA2.out.lt
       have HPA3 : Hid (PA w (w2.alloc (.cells #[.int .i64 0, .bool false, .int .i64 0, .int .i64 0, .string ⟨#[]⟩] 34)) M g n c l) := HPA2.out.on (alM _ _)
       have HY3 : Hid ((w2.alloc (.cells #[.int .i64 0, .bool false, .int .i64 0, .int .i64 0, .string ⟨#[]⟩] 34)).heap[Y]? = some (oB 0 0 0 0)) := row_on HY2.out (alM _ _)
       have HX3 : Hid ((w2.alloc (.cells #[.int .i64 0, .bool false, .int .i64 0, .int .i64 0, .string ⟨#[]⟩] 34)).heap[w2.heap.size]? = some (.cells #[.int .i64 0, .bool false, .int .i64 0, .int .i64 0, .string ⟨#[]⟩] 34)) := heap_new w2 _
       refine hJ.out _ _ HPA3.out.conj (fun hHeld3 => ?_)
       clear hJ J hHeld2 HPA2 HY2
       try simp only [Act.put, sQ]
       generalize w2.alloc (.cells #[.int .i64 0, .bool false, .int .i64 0, .int .i64 0, .string ⟨#[]⟩] 34) = w3 at *
       generalize w2.heap.size = X at *
       have hXY := xy_ne HX3.out HY3.out
       refine wpAnyH_ready (rs := [12]) (by kernel_rfl) (by simp) ?_
       refine AllReadyH.cons rfl (fun J hJ => ?_) AllReadyH.nil
       refine storeM_any rfl rfl _ _ _ rfl rfl X (p.m.a) (p.m.b) (p.m.n) (p.m.d) (⟨p.m.s.toArray⟩) rfl rfl HX3.out ?_
       intro w8 hput
       have HPA8 : Hid (PA w w8 M g n c l) := HPA3.out.put hput (by omega) (by omega)
       have HX8 := aqMnL hput.1
       have HY8 : Hid (w8.heap[Y]? = some (oB 0 0 0 0)) := hput.far HY3.out hXY.symm
       clear hput HPA3 HX3 HY3
       refine hJ.out _ _ HPA8.out.conj (fun hHeld8 => ?_)
       clear hJ J hHeld3
       try simp only [Act.put, sQ]
       refine wpAnyH_ready (rs := [13]) (by kernel_rfl) (by simp) ?_
       refine AllReadyH.cons rfl (fun J hJ => ?_) AllReadyH.nil
       refine storeO_any rfl rfl _ _ _ rfl rfl Y (p.k) (p.n) (p.d) (p.v) rfl rfl HY8.out ?_
       intro w9 hput
       have HPA9 : Hid (PA w w9 M g n c l) := HPA8.out.put hput (by omega) (by omega)
       have HX9 : Hid (w9.heap[X]? = some (.cells #[.int .i64 p.m.a, .bool p.m.b, .int .i64 p.m.n, .int .i64 p.m.d, .string ⟨p.m.s.toArray⟩] 34)) := hput.far HX8.out hXY
       have HY9 := aqMnL hput.1
       clear hput HPA8 HX8 HY8
       refine hJ.out _ _ HPA9.out.conj (fun hHeld9 => ?_)
       clear hJ J hHeld8
       try simp only [Act.put, sQ]
       refine tkQ 14 ?_ rfl ?_ ?_
       rotate_left
       · intro w_ hSw; (try dsimp only at hSw); go_simp <;> with_reducible rfl
       try simp only [Act.put, sQ]
       clear hHeld9
       refine wpAnyH_done (by kernel_rfl) ?_ _
       (try go_wp2_with fail)
       go_meet
       exact ⟨X, Y, rfl, rfl, rfl, HPA9, HX9, HY9⟩
     ·
      go_simp
      have hltX := HPA1.out.lt
      have HPA2 : Hid (PA w (w1.alloc (.cells #[.int .i64 0, .bool false, .int .i64 0, .int .i64 0, .string ⟨#[]⟩] 34)) M g n c l) := HPA1.out.on (alM _ _)
      have HY2 : Hid ((w1.alloc (.cells #[.int .i64 0, .bool false, .int .i64 0, .int .i64 0, .string ⟨#[]⟩] 34)).heap[Y]? = some (oB 0 0 0 0)) := row_on HY1.out (alM _ _)
      have HX2 : Hid ((w1.alloc (.cells #[.int .i64 0, .bool false, .int .i64 0, .int .i64 0, .string ⟨#[]⟩] 34)).heap[w1.heap.size]? = some (.cells #[.int .i64 0, .bool false, .int .i64 0, .int .i64 0, .string ⟨#[]⟩] 34)) := heap_new w1 _
      refine hJ.out _ _ HPA2.out.conj (fun hHeld2 => ?_)
      clear hJ J hHeld1 HPA1 HY1
      try simp only [Act.put, sQ]
      generalize w1.alloc (.cells #[.int .i64 0, .bool false, .int .i64 0, .int .i64 0, .string ⟨#[]⟩] 34) = w2 at *
      generalize w1.heap.size = X at *
      refine wpAnyH_ready (rs := [5]) (by kernel_rfl) (by simp) ?_
      refine AllReadyH.cons rfl (fun J hJ => ?_) AllReadyH.nil
      ·
       go_simp
       go_at_call 102
       refine (pressS M (bt K j) p HPR.out _).mono ?_
       rintro e w3 ⟨rfl, hbc⟩
       have HPA3 := aqMnL (HPA2.out.on hbc)
       have HX3 := rq HX2 hbc
       have HY3 := rq HY2 hbc
       unfold mnV ordV
       clear hbc HPA2 HX2 HY2
       go_wp2_with fail
       refine hJ.out _ _ HPA3.out.conj (fun hHeld3 => ?_)
       clear hJ J hHeld2
       try simp only [Act.put, sQ]
       refine tkQ 6 ?_ rfl ?_ ?_
       rotate_left
       · intro w_ hSw; (try dsimp only at hSw); go_simp <;> with_reducible rfl
       try simp only [Act.put, sQ]
       refine tkQ 7 ?_ rfl ?_ ?_
       rotate_left
       · intro w_ hSw; (try dsimp only at hSw); go_simp <;> with_reducible rfl
       try simp only [Act.put, sQ]
       refine tkQ 8 ?_ rfl ?_ ?_
       rotate_left
       · intro w_ hSw; (try dsimp only at hSw); go_simp <;> with_reducible rfl
       try simp only [Act.put, sQ]
       refine tkQ 9 ?_ rfl ?_ ?_
       rotate_left
       · intro w_ hSw; (try dsimp only at hSw); go_simp <;> with_reducible rfl
       try simp only [Act.put, sQ]
       have hXY := xy_ne HX3.out HY3.out
       refine wpAnyH_ready (rs := [12]) (by kernel_rfl) (by simp) ?_
       refine AllReadyH.cons rfl (fun J hJ => ?_) AllReadyH.nil
       refine storeM_any rfl rfl _ _ _ rfl rfl X (p.m.a) (p.m.b) (p.m.n) (p.m.d) (⟨p.m.s.toArray⟩) rfl rfl HX3.out ?_
       intro w8 hput
       have HPA8 : Hid (PA w w8 M g n c l) := HPA3.out.put hput (by omega) (by omega)
       have HX8 := aqMnL hput.1
       have HY8 : Hid (w8.heap[Y]? = some (oB 0 0 0 0)) := hput.far HY3.out hXY.symm
       clear hput HPA3 HX3 HY3
       refine hJ.out _ _ HPA8.out.conj (fun hHeld8 => ?_)
       clear hJ J hHeld3
       try simp only [Act.put, sQ]
       refine wpAnyH_ready (rs := [13]) (by kernel_rfl) (by simp) ?_
       refine AllReadyH.cons rfl (fun J hJ => ?_) AllReadyH.nil
       refine storeO_any rfl rfl _ _ _ rfl rfl Y (p.k) (p.n) (p.d) (p.v) rfl rfl HY8.out ?_
       intro w9 hput
       have HPA9 : Hid (PA w w9 M g n c l) := HPA8.out.put hput (by omega) (by omega)
       have HX9 : Hid (w9.heap[X]? = some (.cells #[.int .i64 p.m.a, .bool p.m.b, .int .i64 p.m.n, .int .i64 p.m.d, .string ⟨p.m.s.toArray⟩] 34)) := hput.far HX8.out hXY
       have HY9 := aqMnL hput.1
       clear hput HPA8 HX8 HY8
       refine hJ.out _ _ HPA9.out.conj (fun hHeld9 => ?_)
       clear hJ J hHeld8
       try simp only [Act.put, sQ]
       refine tkQ 14 ?_ rfl ?_ ?_
       rotate_left
       · intro w_ hSw; (try dsimp only at hSw); go_simp <;> with_reducible rfl
       try simp only [Act.put, sQ]
       clear hHeld9
       refine wpAnyH_done (by kernel_rfl) ?_ _
       (try go_wp2_with fail)
       go_meet
       exact ⟨X, Y, rfl, rfl, rfl, HPA9, HX9, HY9⟩
   case rest =>
    clear HPA p0 HPR
    obtain ⟨X, Y, rfl, rfl, rfl, HPA, HX, HY⟩ := hcut
    have x := box5_cells HX.out
    have hgl := HPA.out.lt
    go_upto_region 6 with fail
    go_wp2_with (refine listStoreM rfl rfl _ _ _ rfl rfl w.heap.size (p.m.a) (p.m.b) (p.m.n) (p.m.d) (⟨p.m.s.toArray⟩) rfl rfl HPA.out.p ?_)
    intro w2 hput
    have HPA2 : Hid (PA w w2 p.m g n c l) := ⟨hput.1, hput.far HPA.out.z (by omega), HPA.out.o.put hput (by omega), hput.2.2.2 _ _ (Nat.le_refl _) HPA.out.b⟩
    have HY2 : Hid (w2.heap[Y]? = some (oB p.k p.n p.d p.v)) := by
     have hne : Y ≠ w.heap.size := fun e => by have h := HY.out; rw [e, HPA.out.p] at h; simp at h
     exact hput.far HY.out hne
    clear hput HPA HX HY x
    obtain ⟨pm, pk, pn, pd, pv, pt⟩ := p
    dsimp only at *
    have qj : IntKind.i64.wrap ((j : Int) + 1) = (j : Int) + 1 := wrap_in (by omega) (by omega)
    cases pt
    ·
     have HM2 : Hid (allM m (ks.take (j + 1)) = (pm, l)) := HM'.out
     clear HM' HY2
     go_wp2
     go_roundg (gk - 1)
     case measure => omega
     case rel => exact ⟨j + 1, g, n, c, pm, l, by omega, rfl, by go_num, HM2, HPA2⟩
    ·
     have HM2 : Hid (allM m (ks.take (j + 1)) = (pm, l ++ [(pk, pn, pd, pv)])) := HM'.out
     have y := box4_cells HY2.out
     have HPA3 : Hid (PA w (w2.alloc (oB pk pn pd pv)) pm g n c l) := HPA2.out.on (alM _ _)
     have HR3 : Hid (RdQ (w2.alloc (oB pk pn pd pv)) (some ⟨w2.heap.size, 0, none⟩) [(pk, pn, pd, pv)]) := (one_rowQ w2 pk pn pd pv).rd
     have hl2 := HPA2.out.lt
     clear HM'
     go_upto_region 8 with fail
     go_wp2_with (refine listQ rfl (.tmp 30) (.tmp 32) rfl (w.heap.size + 2) g n c l (some ⟨w2.heap.size, 0, none⟩) 1 1 [(pk, pn, pd, pv)] rfl rfl HPA3.out.o rfl (fun e => by cases e) HR3.out (by omega) (by simp; omega) ?_)
     intro g4 c4 w4 hown4 hgr4
     have HPA4 : Hid (PA w w4 pm g4 (n + 1) c4 (l ++ [(pk, pn, pd, pv)])) := HPA3.out.grown hgr4 hown4
     clear hown4 hgr4 HPA3 HPA2 HR3 HY2 y
     go_wp2
     go_roundg (gk - 1)
     case measure => omega
     case rel => exact ⟨j + 1, g4, n + 1, c4, pm, l ++ [(pk, pn, pd, pv)], by omega, rfl, by go_num, HM2, HPA4⟩
  ·
   obtain ⟨M2, l2⟩ := R
   have HE : Hid (allM m ks = (M, l)) := by show _ = _; have h := HM.out; rw [List.take_of_length_le (by omega)] at h; exact h
   obtain ⟨rfl, rfl⟩ : M = M2 ∧ l = l2 := by have h := HE.out.symm.trans HR.out; simpa using h
   obtain rfl : n = q := by rw [← HPA.out.o.len]; exact HQ.out
   have hgl := HPA.out.lt
   have x := box5_cells HPA.out.p
   clear HE HM HR HQ
   go_upto_region 9 with fail
   go_wp2_with (refine listStoreM rfl rfl _ _ _ rfl rfl (w.heap.size + 1) M.a M.b M.n M.d ⟨M.s.toArray⟩ rfl rfl HPA.out.z ?_)
   intro w2 hput
   have HB2 : Hid (Below w.heap.size w w2) := hput.2.2.2 _ _ (Nat.le_succ _) HPA.out.b
   have HO2 : Hid (OwnE w2 (w.heap.size + 2) g n c l) := HPA.out.o.put hput (by omega)
   have zz := box5_cells hput.1
   clear hput HPA x
   go_wp2
   refine bodyPost_ret (v := .tuple #[.agg #[.int .i64 M.a, .bool M.b, .int .i64 M.n, .int .i64 M.d, .string ⟨M.s.toArray⟩], .slice (some ⟨g, 0, none⟩) n c]) (by simp only [results, Tryz.results50]; simp [go_sem, zz]) rfl ⟨g, c, rfl, HO2.out.mono (by omega), HB2.out⟩
end Go.Proofs.YtfhhnelffldggaaGreatDoor
namespace Go.Proofs.YtfhhnelffldggaaGreatDoor
open Go.RowKit Go.PlainAid
set_option linter.unusedVariables false
theorem pressAllS' (m : Mn) (ks : List UInt8) (K : ByteArray) (hK : (⟨ks.toArray⟩ : ByteArray) = K) (M : Mn) (l : List Od4) (q : Nat) (hR : allM m ks = (M, l)) (hq : l.length = q) (hl : ks.length ≤ 1048576) (w : World) :
  Calls Tryz.prog 50 #[mnV m, .string K] w fun e w' => ∃ g c, e = .returned (.tuple #[mnV M, .slice (some ⟨g, 0, none⟩) q c]) ∧ OwnE w' w.heap.size g q c l ∧ Below w.heap.size w w' := by
 subst hK
 exact pressAllS m ks (M, l) q hR hq hl w
end Go.Proofs.YtfhhnelffldggaaGreatDoor
