/-
  Menus of the program: entered.
-/
import Derived.Test.YtfhhnelffldggaaGreatDoorUqBF
set_option maxRecDepth 100000
set_option maxHeartbeats 16000000
namespace Go.Proofs.YtfhhnelffldggaaGreatDoor
open Go.RowKit Go.PlainAid
set_option linter.unusedVariables false
set_option linter.unusedSimpArgs false
def entM (a : Int) (b : Bool) (n d : Int) (z : Int) : Pr :=
 if a = 2 then noP ⟨3, b, z, d, []⟩ else if a = 3 then noP ⟨4, b, n, z, []⟩
 else if b = true then (if 1 ≤ z ∧ z ≤ 100 then ⟨newM, 2, 0, 0, z, true⟩ else noP newM)
 else if (1 ≤ d ∧ d ≤ 1000) ∧ (1 ≤ n ∧ n ≤ 1000) ∧ n ≤ 3 * d ∧ (1 ≤ z ∧ z ≤ 5000) then ⟨newM, 1, n, d, z, true⟩ else noP newM
theorem ent_end (b : Bool) (n d z : Int) (hg : b = true → n = 0 ∧ d = 0) : ∃ (k : Int) (B : Bool) (o1 o2 o3 o4 : Int), ((b = false ∧ k = 1) ∨ (b = true ∧ k = 2)) ∧ (B = true ↔ OrdR k n d z) ∧ ((B = true ∧ o1 = k ∧ o2 = n ∧ o3 = d ∧ o4 = z) ∨ (B = false ∧ o1 = 0 ∧ o2 = 0 ∧ o3 = 0 ∧ o4 = 0)) ∧ entM 4 b n d z = ⟨newM, o1, o2, o3, o4, B⟩ := by
 cases b
 ·
  obtain ⟨B, hB⟩ := ord_bool 1 n d z
  cases B
  ·
   refine ⟨1, false, 0, 0, 0, 0, Or.inl ⟨rfl, rfl⟩, hB, Or.inr ⟨rfl, rfl, rfl, rfl, rfl⟩, ?_⟩
   unfold entM
   rw [if_neg (by decide), if_neg (by decide), if_neg (by decide), if_neg (fun h => by have := hB.2 (Or.inl ⟨rfl, h⟩); cases this)]
   rfl
  ·
   refine ⟨1, true, 1, n, d, z, Or.inl ⟨rfl, rfl⟩, hB, Or.inl ⟨rfl, rfl, rfl, rfl, rfl⟩, ?_⟩
   unfold entM
   rw [if_neg (by decide), if_neg (by decide), if_neg (by decide), if_pos (by have h := hB.1 rfl; unfold OrdR at h; omega)]
 ·
  obtain ⟨rfl, rfl⟩ := hg rfl
  obtain ⟨B, hB⟩ := ord_bool 2 0 0 z
  cases B
  ·
   refine ⟨2, false, 0, 0, 0, 0, Or.inr ⟨rfl, rfl⟩, hB, Or.inr ⟨rfl, rfl, rfl, rfl, rfl⟩, ?_⟩
   unfold entM
   rw [if_neg (by decide), if_neg (by decide), if_pos rfl, if_neg (fun h => by have := hB.2 (Or.inr (Or.inl ⟨rfl, h, rfl, rfl⟩)); cases this)]
   rfl
  ·
   refine ⟨2, true, 2, 0, 0, z, Or.inr ⟨rfl, rfl⟩, hB, Or.inl ⟨rfl, rfl, rfl, rfl, rfl⟩, ?_⟩
   unfold entM
   rw [if_neg (by decide), if_neg (by decide), if_pos rfl, if_pos (by have h := hB.1 rfl; unfold OrdR at h; omega)]
theorem enteredI (a : Int) (b : Bool) (n d : Int) (s : List UInt8) (S : ByteArray) (hS : (⟨s.toArray⟩ : ByteArray) = S) (z : Int) (hz : numF s = z) (hf : ∀ x ∈ s, figB x = true) (hl : s.length ≤ 4) (ha : 2 ≤ a ∧ a ≤ 4) (hg : b = true → n = 0 ∧ d = 0) (r : Pr) (hr : entM a b n d z = r) (w : World) : Calls Tryz.prog 180 #[.agg #[.int .i64 a, .bool b, .int .i64 n, .int .i64 d, .string S]] w fun e w' => e = .returned (.tuple #[mnV r.m, ordV r.k r.n r.d r.v, .bool r.t]) ∧ Below w.heap.size w w' := by
 obtain ⟨h1, h2, h3, h4, h5⟩ := box3m w (.cells #[.int .i64 a, .bool b, .int .i64 n, .int .i64 d, .string S] 34) (.cells #[.int .i64 0, .bool false, .int .i64 0, .int .i64 0, .string ⟨#[]⟩] 34) (oB 0 0 0 0)
 have HP0 := hq h1
 have HZ0 := hq h2
 have HO0 := hq h3
 have HB0 := hq h4
 have p0 := box5_cells h1
 clear h1 h2 h3 h4 h5
 unfold mnV ordV
 have HS := hq hS
 have HZF := hq hz
 have HFG := hq hf
 have HR := hq hr
 have HG := hq hg
 clear hS hz hf hr hg
 go_enter Tryz.func180, Tryz.ntmps180
 go_wp2_with fail
 refine (numbI s S HS.out z HZF.out HFG.out hl _).mono ?_
 rintro e w1 ⟨rfl, hb1⟩
 have HB1 := bq HB0 hb1
 have HP1 := rq HP0 hb1
 have HZ1 := rq HZ0 hb1
 have HO1 := rq HO0 hb1
 have p1 := box5_cells HP1.out
 clear hb1 HB0 HP0 HZ0 HO0 p0
 clear HZF HFG HS hl
 go_wp2_with (refine listStoreT rfl rfl _ _ _ rfl rfl w.heap.size 4 (⟨#[]⟩ : ByteArray) rfl rfl HP1.out (by simp) ?_)
 intro w2 hput
 have HB2 := hq (hput.2.2.2 _ _ (Nat.le_refl _) HB1.out)
 have HP2 := hq hput.1
 have HZ2 := hq (hput.far HZ1.out (by omega))
 have HO2 := hq (hput.far HO1.out (by omega))
 have p2 := box5_cells HP2.out
 clear hput HB1 HP1 HZ1 HO1 p1
 by_cases a2 : a = 2
 ·
  obtain rfl : noP ⟨3, b, z, d, []⟩ = r := by rw [← HR.out]; unfold entM; rw [if_pos a2]
  clear HR ha HG
  subst a2
  (try dsimp only [noP])
  go_wp2_with (refine listStoreI rfl rfl _ _ _ rfl rfl w.heap.size 0 3 rfl rfl HP2.out (by simp) ?_)
  intro w3 hput
  have HB3 := hq (hput.2.2.2 _ _ (Nat.le_refl _) HB2.out)
  have HP3 := hq hput.1
  have HZ3 := hq (hput.far HZ2.out (by omega))
  have HO3 := hq (hput.far HO2.out (by omega))
  have p3 := box5_cells HP3.out
  clear hput HB2 HP2 HZ2 HO2 p2
  go_wp2_with (refine listStoreI rfl rfl _ _ _ rfl rfl w.heap.size 2 z rfl rfl HP3.out (by simp) ?_)
  intro w4 hput
  have HB4 := hq (hput.2.2.2 _ _ (Nat.le_refl _) HB3.out)
  have HP4 := hq hput.1
  have HZ4 := hq (hput.far HZ3.out (by omega))
  have HO4 := hq (hput.far HO3.out (by omega))
  have p4 := box5_cells HP4.out
  clear hput HB3 HP3 HZ3 HO3 p3
  go_upto_region 10 with fail
  go_wp2_with (refine listStoreM rfl rfl _ _ _ rfl rfl (w.heap.size + 1) (3) (b) (z) (d) (⟨#[]⟩) rfl rfl HZ4.out ?_)
  intro w8 hput
  have HB8 := hq (hput.2.2.2 _ _ (Nat.le_succ _) HB4.out)
  have HO8 := hq (hput.far HO4.out (by omega))
  have HZ8 := hq hput.1
  clear hput
  go_wp2_with (refine listStoreO rfl rfl _ _ _ rfl rfl (w.heap.size + 2) (0) (0) (0) (0) rfl rfl HO8.out ?_)
  intro w9 hput
  have HB9 := hq (hput.2.2.2 _ _ (by omega) HB8.out)
  have zz := box5_cells (hput.far HZ8.out (by omega))
  have yy := box4_cells hput.1
  clear hput HB8 HO8 HZ8
  go_wp2
  refine bodyPost_ret (v := .tuple #[.agg #[.int .i64 3, .bool b, .int .i64 z, .int .i64 d, .string ⟨#[]⟩], .agg #[.int .i64 0, .int .i64 0, .int .i64 0, .int .i64 0], .bool false]) (by simp only [results, Tryz.results180]; simp [go_sem, zz, yy]) rfl ⟨rfl, HB9.out⟩
 have q2 : (a == 2) = false := by simpa using a2
 by_cases a3 : a = 3
 ·
  obtain rfl : noP ⟨4, b, n, z, []⟩ = r := by rw [← HR.out]; unfold entM; rw [if_neg a2, if_pos a3]
  clear HR ha HG a2 q2
  subst a3
  (try dsimp only [noP])
  go_wp2_with (refine listStoreI rfl rfl _ _ _ rfl rfl w.heap.size 0 4 rfl rfl HP2.out (by simp) ?_)
  intro w3 hput
  have HB3 := hq (hput.2.2.2 _ _ (Nat.le_refl _) HB2.out)
  have HP3 := hq hput.1
  have HZ3 := hq (hput.far HZ2.out (by omega))
  have HO3 := hq (hput.far HO2.out (by omega))
  have p3 := box5_cells HP3.out
  clear hput HB2 HP2 HZ2 HO2 p2
  go_wp2_with (refine listStoreI rfl rfl _ _ _ rfl rfl w.heap.size 3 z rfl rfl HP3.out (by simp) ?_)
  intro w4 hput
  have HB4 := hq (hput.2.2.2 _ _ (Nat.le_refl _) HB3.out)
  have HP4 := hq hput.1
  have HZ4 := hq (hput.far HZ3.out (by omega))
  have HO4 := hq (hput.far HO3.out (by omega))
  have p4 := box5_cells HP4.out
  clear hput HB3 HP3 HZ3 HO3 p3
  go_upto_region 10 with fail
  go_wp2_with (refine listStoreM rfl rfl _ _ _ rfl rfl (w.heap.size + 1) (4) (b) (n) (z) (⟨#[]⟩) rfl rfl HZ4.out ?_)
  intro w8 hput
  have HB8 := hq (hput.2.2.2 _ _ (Nat.le_succ _) HB4.out)
  have HO8 := hq (hput.far HO4.out (by omega))
  have HZ8 := hq hput.1
  clear hput
  go_wp2_with (refine listStoreO rfl rfl _ _ _ rfl rfl (w.heap.size + 2) (0) (0) (0) (0) rfl rfl HO8.out ?_)
  intro w9 hput
  have HB9 := hq (hput.2.2.2 _ _ (by omega) HB8.out)
  have zz := box5_cells (hput.far HZ8.out (by omega))
  have yy := box4_cells hput.1
  clear hput HB8 HO8 HZ8
  go_wp2
  refine bodyPost_ret (v := .tuple #[.agg #[.int .i64 4, .bool b, .int .i64 n, .int .i64 z, .string ⟨#[]⟩], .agg #[.int .i64 0, .int .i64 0, .int .i64 0, .int .i64 0], .bool false]) (by simp only [results, Tryz.results180]; simp [go_sem, zz, yy]) rfl ⟨rfl, HB9.out⟩
 obtain rfl : a = 4 := by omega
 clear ha a2 a3 q2
 obtain ⟨k, B, o1, o2, o3, o4, hk, hB, ho, hE⟩ := ent_end b n d z HG.out
 obtain rfl : (⟨newM, o1, o2, o3, o4, B⟩ : Pr) = r := by rw [← HR.out, hE]
 have HK := hq hk
 have HBO := hq hB
 have HQQ := hq ho
 clear HR hk hB ho hE HG
 (try dsimp only [newM])
 go_wp2_with fail
 refine (orderI 4 b n d ⟨#[]⟩ z k HK.out B HBO.out o1 o2 o3 o4 HQQ.out _).mono ?_
 rintro e w4 ⟨rfl, hb1⟩
 have HB4 := bq HB2 hb1
 have HP4 := rq HP2 hb1
 have HZ4 := rq HZ2 hb1
 have HO4 := rq HO2 hb1
 have p4 := box5_cells HP4.out
 clear hb1 HB2 HP2 HZ2 HO2 p2
 clear HK HBO HQQ
 have HB5 : Hid (Below w.heap.size w (w4.alloc (oB o1 o2 o3 o4))) := bel_on (Nat.le_refl _) HB4.out (alM _ _)
 have HZ5 : Hid ((w4.alloc (oB o1 o2 o3 o4)).heap[w.heap.size + 1]? = some (.cells #[.int .i64 0, .bool false, .int .i64 0, .int .i64 0, .string ⟨#[]⟩] 34)) := row_on HZ4.out (alM _ _)
 have HO5 : Hid ((w4.alloc (oB o1 o2 o3 o4)).heap[w.heap.size + 2]? = some (oB 0 0 0 0)) := row_on HO4.out (alM _ _)
 have HY5 : Hid ((w4.alloc (oB o1 o2 o3 o4)).heap[w4.heap.size]? = some (oB o1 o2 o3 o4)) := heap_new w4 _
 have hY : w.heap.size + 2 < w4.heap.size := row_lt HO4.out
 clear HP4 p4 HB4 HZ4 HO4
 go_upto_region 5 with fail
 generalize w4.alloc (oB o1 o2 o3 o4) = w5 at *
 generalize w4.heap.size = Y at *
 have y5 := box4_cells HY5.out
 refine wp_region_held_drew (S := fun w' => w'.cell? ⟨Y, 0, none⟩ = some (.int .i64 o1) ∧ w'.cell? ⟨Y, 1, none⟩ = some (.int .i64 o2) ∧ w'.cell? ⟨Y, 2, none⟩ = some (.int .i64 o3) ∧ w'.cell? ⟨Y, 3, none⟩ = some (.int .i64 o4) ∧ Below w.heap.size w w') (by kernel_rfl) (ky4 (w' := w5.drew) HY5.out HB5.out.drew) (fun hHeld => ?_)
 refine tkQ 1 ?_ rfl ?_ ?_
 rotate_left
 · intro w_ hSw; (try dsimp only at hSw); go_simp <;> with_reducible rfl
 try simp only [Act.put, sQ]
 refine tkQ 2 ?_ rfl ?_ ?_
 rotate_left
 · intro w_ hSw; (try dsimp only at hSw); go_simp <;> with_reducible rfl
 try simp only [Act.put, sQ]
 refine wpAnyH_ready (rs := [0]) (by kernel_rfl) (by simp) ?_
 refine AllReadyH.cons rfl (fun J hJ => ?_) AllReadyH.nil
 go_simp
 go_at_call 45
 refine (menunewI _).mono ?_
 rintro e w6 ⟨rfl, hbc⟩
 have HB6 : Hid (Below w.heap.size w w6) := bel_on (Nat.le_refl _) HB5.out.drew hbc
 have HY6 : Hid (w6.heap[Y]? = some (oB o1 o2 o3 o4)) := row_on (w := w5.drew) HY5.out hbc
 have HZ6 : Hid (w6.heap[w.heap.size + 1]? = some (.cells #[.int .i64 0, .bool false, .int .i64 0, .int .i64 0, .string ⟨#[]⟩] 34)) := row_on (w := w5.drew) HZ5.out hbc
 have HO6 : Hid (w6.heap[w.heap.size + 2]? = some (oB 0 0 0 0)) := row_on (w := w5.drew) HO5.out hbc
 unfold mnV newM
 dsimp only
 clear hbc HB5 HY5 HZ5 HO5 y5
 go_wp2_with fail
 refine hJ.out _ _ (ky4 HY6.out HB6.out) (fun hHeld1 => ?_)
 clear hJ J hHeld
 try simp only [Act.put, sQ]
 refine wpAnyH_ready (rs := [3]) (by kernel_rfl) (by simp) ?_
 refine AllReadyH.cons rfl (fun J hJ => ?_) AllReadyH.nil
 refine storeM_any rfl rfl _ _ _ rfl rfl (w.heap.size + 1) 1 false 0 0 ⟨#[]⟩ rfl rfl HZ6.out ?_
 intro w7 hput
 have HB7 := hq (hput.2.2.2 _ _ (Nat.le_succ _) HB6.out)
 have HY7 := hq (hput.far HY6.out (by omega))
 have HZ7 := hq hput.1
 have HO7 := hq (hput.far HO6.out (by omega))
 clear hput HB6 HY6 HZ6 HO6
 refine hJ.out _ _ (ky4 HY7.out HB7.out) (fun hHeld2 => ?_)
 clear hJ J hHeld1
 try simp only [Act.put, sQ]
 refine wpAnyH_ready (rs := [4]) (by kernel_rfl) (by simp) ?_
 refine AllReadyH.cons rfl (fun J hJ => ?_) AllReadyH.nil
 refine storeO_any rfl rfl _ _ _ rfl rfl (w.heap.size + 2) o1 o2 o3 o4 rfl rfl HO7.out ?_
 intro w9 hput
 have HB9 := hq (hput.2.2.2 _ _ (by omega) HB7.out)
 have HY9 := hq (hput.far HY7.out (by omega))
 have zz := box5_cells (hput.far HZ7.out (by omega))
 have yy := box4_cells hput.1
 clear hput HB7 HY7 HZ7 HO7
 refine hJ.out _ _ (ky4 HY9.out HB9.out) (fun hHeld3 => ?_)
 clear hJ J hHeld2
 try simp only [Act.put, sQ]
 refine tkQ 5 ?_ rfl ?_ ?_
 rotate_left
 · intro w_ hSw; (try dsimp only at hSw); go_simp <;> with_reducible rfl
 try simp only [Act.put, sQ]
 refine wpAnyH_done (by kernel_rfl) ?_ _
 clear hHeld3
 go_wp2
 refine bodyPost_ret (v := .tuple #[.agg #[.int .i64 1, .bool false, .int .i64 0, .int .i64 0, .string ⟨#[]⟩], .agg #[.int .i64 o1, .int .i64 o2, .int .i64 o3, .int .i64 o4], .bool B]) (by simp only [results, Tryz.results180]; simp [go_sem, zz, yy]) rfl ⟨rfl, HB9.out⟩
end Go.Proofs.YtfhhnelffldggaaGreatDoor
