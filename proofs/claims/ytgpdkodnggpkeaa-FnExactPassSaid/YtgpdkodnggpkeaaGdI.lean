/-
  Guards of the program: Pass.
-/
import Derived.Test.YtgpdkodnggpkeaaGdIc
namespace Go.Proofs.Ytgpdkodnggpkeaa
open Go.RowKit Go.PlainAid
set_option linter.unusedVariables false
set_option linter.unusedSimpArgs false

/-- two boxed guards behind what only grew -/
def KP2 (w w' : World) (p z : Obj) : Prop := w'.heap[w.heap.size]? = some p ∧ w'.heap[w.heap.size + 1]? = some z ∧ Below w.heap.size w w'
theorem KP2.on {w w' w2 : World} {p z : Obj} (h : KP2 w w' p z) (hb : Below w'.heap.size w' w2) : KP2 w w2 p z := ⟨row_on h.1 hb, row_on h.2.1 hb, bel_on (Nat.le_refl _) h.2.2 hb⟩
theorem kp_conj {w w' : World} {x y : Value} {T : TypeId} {z : Obj} (h : KP2 w w' (.cells #[x, y] T) z) : w'.cell? ⟨w.heap.size, 0, none⟩ = some x ∧ w'.cell? ⟨w.heap.size, 1, none⟩ = some y ∧ Below w.heap.size w w' := by
  refine ⟨?_, ?_, h.2.2⟩ <;> simp [World.cell?, h.1]
set_option maxRecDepth 100000 in
set_option maxHeartbeats 8000000 in
theorem passI (a : Option Addr) (al : Int) (l : List Int) (n cap : Nat) (x : Int) (b : Bool) (Y : List Int) (m : Nat) (hY : passL b l x = Y) (hm : Y.length = m) (hl : l.length = n) (hn : n ≤ 1048576) (ha : a = none → n = 0 ∧ cap = 0) (hb : b = true ↔ GdR l al) (w : World) (hr : Rd w a l) :
    Calls Try.prog 15 #[.agg #[.slice a n cap, .int .i64 al], .int .i64 x] w fun e w' => ∃ g c, e = .returned (.agg #[.slice (some ⟨g, 0, none⟩) m c, .int .i64 al]) ∧ OwnN w' w.heap.size g m c Y ∧ Below w.heap.size w w' := by
  have HY : Hid (passL b l x = Y) := hY
  have HM0 : Hid (Y.length = m) := hm
  have HL : Hid (l.length = n) := hl
  have HR : Hid (Rd w a l) := hr
  have HBo : Hid (b = true ↔ GdR l al) := hb
  obtain ⟨h1, h2, h3, h4⟩ := box2b w (.slice a n cap) (.int .i64 al) (.slice none 0 0) (.int .i64 0) 26 26
  have HP0 : Hid (_ = _) := h1
  have HZ0 : Hid (_ = _) := h2
  have HB0 : Hid (Below _ _ _) := h3
  have p0 := row2_cells HP0.out
  clear hY hm hl hr ha hb h1 h2 h3 h4
  go_enter Try.func15, Try.ntmps15
  go_wp2_with fail
  refine (guardokI a al l n cap b HL.out (by omega) HBo.out _ (HR.out.keep HB0.out (Nat.le_refl _))).mono ?_
  rintro e w1 ⟨rfl, hb1⟩
  have HB1 : Hid (Below w.heap.size w w1) := bel_on (Nat.le_refl _) HB0.out hb1
  have HP1 : Hid (w1.heap[w.heap.size]? = some (.cells #[.slice a n cap, .int .i64 al] 26)) := row_on HP0.out hb1
  have HZ1 : Hid (w1.heap[w.heap.size + 1]? = some (.cells #[.slice none 0 0, .int .i64 0] 26)) := row_on HZ0.out hb1
  have p1 := row2_cells HP1.out
  clear hb1 HB0 HP0 HZ0 p0
  cases b
  · obtain rfl : l = Y := by rw [← HY.out]; simp [passL]
    obtain rfl : n = m := by rw [← HL.out]; exact HM0.out
    clear HY HM0
    go_wp2_with fail
    refine (copyGI a al l n cap HL.out hn _ (HR.out.keep HB1.out (Nat.le_refl _))).mono ?_
    rintro e w2 ⟨rfl, hown, hb1⟩
    have HB2 : Hid (Below w.heap.size w w2) := bel_on (Nat.le_refl _) HB1.out hb1
    have HZ2 : Hid (w2.heap[w.heap.size + 1]? = some (.cells #[.slice none 0 0, .int .i64 0] 26)) := row_on HZ1.out hb1
    have hz1 := row_lt HZ1.out
    obtain ⟨g, hg⟩ : ∃ g, w1.heap.size + 2 = g := ⟨_, rfl⟩
    rw [hg] at hown ⊢
    have HO2 : Hid (OwnN w2 (w.heap.size + 2) g n n l) := hown.mono (by omega)
    have hg2 := HO2.out.ge
    clear hown hb1 HB1 HP1 HZ1 p1 hg hz1
    go_wp2_with (refine listStoreG rfl rfl _ _ _ rfl rfl (w.heap.size + 1) (some ⟨g, 0, none⟩) n n al rfl rfl HZ2.out ?_)
    intro w9 hput
    have HB9 : Hid (Below w.heap.size w w9) := hput.2.2.2 _ _ (Nat.le_succ _) HB2.out
    have HO9 : Hid (OwnN w9 w.heap.size g n n l) := hput.own (HO2.out.mono (by omega)) (by omega)
    obtain ⟨z0, z1, _⟩ := row2_cells hput.1
    clear hput
    go_wp2
    refine bodyPost_ret (v := .agg #[.slice (some ⟨g, 0, none⟩) n n, .int .i64 al]) (by simp only [results, Try.results15]; simp [go_sem, z0, z1]) rfl ⟨g, n, rfl, HO9.out, HB9.out⟩
  have HGR : Hid (GdR l al) := HBo.out.1 rfl
  obtain ⟨v, hv⟩ : ∃ v, letG l x = v := ⟨_, rfl⟩
  have HV : Hid (letG l x = v) := hv
  have HYv : Hid ((v :: l).take 9 = Y) := by show _ = _; rw [← HY.out, ← hv]; simp [passL]
  have hn9 : n ≤ 9 := by have := HGR.out.1; have := HL.out; omega
  have HK0 : Hid (KP2 w w1.drew (.cells #[.slice a n cap, .int .i64 al] 26) (.cells #[.slice none 0 0, .int .i64 0] 26)) := ⟨HP1.out, HZ1.out, HB1.out.drew⟩
  clear hv HY HBo
  go_upto_region 3 with fail
  clear p1 HP1 HZ1 HB1
  refine wp_region_held_drew (S := fun w' => w'.cell? ⟨w.heap.size, 0, none⟩ = some (.slice a n cap) ∧ w'.cell? ⟨w.heap.size, 1, none⟩ = some (.int .i64 al) ∧ Below w.heap.size w w') (by kernel_rfl) (kp_conj HK0.out) (fun hHeld => ?_)
  refine wpAnyH_take (i := 0) (v := ?_) rfl (by kernel_rfl) (by kernel_rfl) (by kernel_rfl) (fun _ _ _ h => h) (Or.inl ⟨by rfl, ?_⟩) (by assumption) ?_
  rotate_left
  · intro w_ hSw; (try dsimp only at hSw); go_simp <;> with_reducible rfl
  try simp only [Act.put, List.setIfInBounds_toArray, List.set_cons_zero, List.set_cons_succ, List.getElem_toArray, List.getElem_cons_zero, List.getElem_cons_succ]
  refine wpAnyH_take (i := 1) (v := ?_) rfl (by kernel_rfl) (by kernel_rfl) (by kernel_rfl) (fun _ _ _ h => h) (Or.inl ⟨by rfl, ?_⟩) (by assumption) ?_
  rotate_left
  · intro w_ hSw; (try dsimp only at hSw); go_simp <;> with_reducible rfl
  try simp only [Act.put, List.setIfInBounds_toArray, List.set_cons_zero, List.set_cons_succ, List.getElem_toArray, List.getElem_cons_zero, List.getElem_cons_succ]
  refine wpAnyH_take (i := 3) (v := ?_) rfl (by kernel_rfl) (by kernel_rfl) (by kernel_rfl) (fun _ _ _ h => h) (Or.inl ⟨by rfl, ?_⟩) (by assumption) ?_
  rotate_left
  · intro w_ hSw; (try dsimp only at hSw); go_simp <;> with_reducible rfl
  try simp only [Act.put, List.setIfInBounds_toArray, List.set_cons_zero, List.set_cons_succ, List.getElem_toArray, List.getElem_cons_zero, List.getElem_cons_succ]
  refine wpAnyH_take (i := 4) (v := ?_) rfl (by kernel_rfl) (by kernel_rfl) (by kernel_rfl) (fun _ _ _ h => h) (Or.inl ⟨by rfl, ?_⟩) (by assumption) ?_
  rotate_left
  · intro w_ hSw; (try dsimp only at hSw); go_simp <;> with_reducible rfl
  try simp only [Act.put, List.setIfInBounds_toArray, List.set_cons_zero, List.set_cons_succ, List.getElem_toArray, List.getElem_cons_zero, List.getElem_cons_succ]
  refine wpAnyH_take (i := 8) (v := ?_) rfl (by kernel_rfl) (by kernel_rfl) (by kernel_rfl) (fun _ _ _ h => h) (Or.inl ⟨by rfl, ?_⟩) (by assumption) ?_
  rotate_left
  · intro w_ hSw; (try dsimp only at hSw); go_simp <;> with_reducible rfl
  try simp only [Act.put, List.setIfInBounds_toArray, List.set_cons_zero, List.set_cons_succ, List.getElem_toArray, List.getElem_cons_zero, List.getElem_cons_succ]
  refine wpAnyH_take (i := 9) (v := ?_) rfl (by kernel_rfl) (by kernel_rfl) (by kernel_rfl) (fun _ _ _ h => h) (Or.inl ⟨by rfl, ?_⟩) (by assumption) ?_
  rotate_left
  · intro w_ hSw; (try dsimp only at hSw); go_simp <;> with_reducible rfl
  try simp only [Act.put, List.setIfInBounds_toArray, List.set_cons_zero, List.set_cons_succ, List.getElem_toArray, List.getElem_cons_zero, List.getElem_cons_succ]
  refine wpAnyH_ready (rs := [2]) (by kernel_rfl) (by simp) ?_
  refine AllReadyH.cons rfl (fun J hJ => ?_) AllReadyH.nil
  go_simp
  go_at_call 36
  refine (pastI a l n cap HL.out hn9 _ (HR.out.keep HK0.out.2.2 (Nat.le_refl _))).mono ?_
  rintro e v1 ⟨A, N, M, rfl, hring, hbc⟩
  have HG : Hid (Ring l A N M) := hring
  have HK1 : Hid (KP2 w v1 (.cells #[.slice a n cap, .int .i64 al] 26) (.cells #[.slice none 0 0, .int .i64 0] 26)) := HK0.out.on hbc
  clear hbc HK0 hring
  go_wp2_with fail
  refine hJ.out _ _ (kp_conj HK1.out) (fun hHeld1 => ?_)
  clear hJ J
  try simp only [Act.put, List.setIfInBounds_toArray, List.set_cons_zero, List.set_cons_succ, List.getElem_toArray, List.getElem_cons_zero, List.getElem_cons_succ]
  refine wpAnyH_ready (rs := [5]) (by kernel_rfl) (by simp) ?_
  refine AllReadyH.cons rfl (fun J hJ => ?_) AllReadyH.nil
  go_simp
  go_at_call 34
  refine (inRoomI a al l n cap x v HGR.out HV.out HL.out hn _ (HR.out.keep HK1.out.2.2 (Nat.le_refl _))).mono ?_
  rintro e v2 ⟨rfl, hbc⟩
  have HK2 : Hid (KP2 w v2 (.cells #[.slice a n cap, .int .i64 al] 26) (.cells #[.slice none 0 0, .int .i64 0] 26)) := HK1.out.on hbc
  clear hbc HK1
  go_wp2_with fail
  refine hJ.out _ _ (kp_conj HK2.out) (fun hHeld2 => ?_)
  clear hJ J
  try simp only [Act.put, List.setIfInBounds_toArray, List.set_cons_zero, List.set_cons_succ, List.getElem_toArray, List.getElem_cons_zero, List.getElem_cons_succ]
  refine wpAnyH_ready (rs := [6]) (by kernel_rfl) (by simp) ?_
  refine AllReadyH.cons rfl (fun J hJ => ?_) AllReadyH.nil
  go_simp
  go_at_call 37
  refine (withI A N M v HG.out.1 HG.out.2.2.1 _).mono ?_
  rintro e v3 ⟨rfl, hbc⟩
  have HK3 : Hid (KP2 w v3 (.cells #[.slice a n cap, .int .i64 al] 26) (.cells #[.slice none 0 0, .int .i64 0] 26)) := HK2.out.on hbc
  obtain ⟨A', hA'⟩ : ∃ A', putA A N v = A' := ⟨_, rfl⟩
  obtain ⟨N', hN'⟩ : ∃ N', (N + 1) % 9 = N' := ⟨_, rfl⟩
  obtain ⟨M', hM'⟩ : ∃ M', min (M + 1) 9 = M' := ⟨_, rfl⟩
  have HG' : Hid (Ring Y A' N' M') := by
    have h := ring_put HG.out v
    rw [hA', hN', hM', HYv.out] at h
    exact h
  rw [hA', hN', hM']
  obtain rfl : M' = m := by rw [← HG'.out.2.1]; exact HM0.out
  clear hbc HK2 hA' hN' hM' HG
  go_wp2_with fail
  refine hJ.out _ _ (kp_conj HK3.out) (fun hHeld3 => ?_)
  clear hJ J hHeld1 hHeld2
  try simp only [Act.put, List.setIfInBounds_toArray, List.set_cons_zero, List.set_cons_succ, List.getElem_toArray, List.getElem_cons_zero, List.getElem_cons_succ]
  refine wpAnyH_ready (rs := [7]) (by kernel_rfl) (by simp) ?_
  refine AllReadyH.cons rfl (fun J hJ => ?_) AllReadyH.nil
  go_simp
  go_at_call 38
  refine (listI Y A' N' M' HG'.out _).mono ?_
  rintro e v4 ⟨rfl, hrow, hbc⟩
  have HK4 : Hid (KP2 w v4 (.cells #[.slice a n cap, .int .i64 al] 26) (.cells #[.slice none 0 0, .int .i64 0] 26)) := HK3.out.on hbc
  have hz3 : w.heap.size + 1 < v3.heap.size := row_lt HK3.out.2.1
  have HO4 : Hid (OwnN v4 (w.heap.size + 2) (v3.heap.size + 1) M' M' Y) := RowAt.ownN hrow (by omega) HM0.out (by have := HG'.out.2.2.1; omega)
  obtain ⟨g, hg⟩ : ∃ g, v3.heap.size + 1 = g := ⟨_, rfl⟩
  rw [hg] at HO4 ⊢
  have hg2 := HO4.out.ge
  clear hbc HK3 hrow HG' hz3 hg
  go_wp2_with fail
  refine hJ.out _ _ (kp_conj HK4.out) (fun hHeld4 => ?_)
  clear hJ J hHeld3
  try simp only [Act.put, List.setIfInBounds_toArray, List.set_cons_zero, List.set_cons_succ, List.getElem_toArray, List.getElem_cons_zero, List.getElem_cons_succ]
  refine wpAnyH_take (i := 10) (v := ?_) rfl (by kernel_rfl) (by kernel_rfl) (by kernel_rfl) (fun _ _ _ h => h) (Or.inl ⟨by rfl, ?_⟩) (by assumption) ?_
  rotate_left
  · intro w_ hSw; (try dsimp only at hSw); go_simp <;> with_reducible rfl
  try simp only [Act.put, List.setIfInBounds_toArray, List.set_cons_zero, List.set_cons_succ, List.getElem_toArray, List.getElem_cons_zero, List.getElem_cons_succ]
  refine wpAnyH_ready (rs := [11]) (by kernel_rfl) (by simp) ?_
  refine AllReadyH.cons rfl (fun J hJ => ?_) AllReadyH.nil
  have kz := row2_cells HK4.out.2.1
  go_simp
  have hput1 : PutG v4 (v4.setCell ⟨w.heap.size + 1, 0, none⟩ (.slice (some ⟨g, 0, none⟩) M' M')) (w.heap.size + 1) (.cells #[.slice (some ⟨g, 0, none⟩) M' M', .int .i64 0] 26) := putG_set HK4.out.2.1
  have hput2 : PutG (v4.setCell ⟨w.heap.size + 1, 0, none⟩ (.slice (some ⟨g, 0, none⟩) M' M')) ((v4.setCell ⟨w.heap.size + 1, 0, none⟩ (.slice (some ⟨g, 0, none⟩) M' M')).setCell ⟨w.heap.size + 1, 1, none⟩ (.int .i64 al)) (w.heap.size + 1) (.cells #[.slice (some ⟨g, 0, none⟩) M' M', .int .i64 al] 26) := putG_set hput1.1
  have HK5 : Hid (KP2 w ((v4.setCell ⟨w.heap.size + 1, 0, none⟩ (.slice (some ⟨g, 0, none⟩) M' M')).setCell ⟨w.heap.size + 1, 1, none⟩ (.int .i64 al)) (.cells #[.slice a n cap, .int .i64 al] 26) (.cells #[.slice (some ⟨g, 0, none⟩) M' M', .int .i64 al] 26)) := ⟨hput2.far (hput1.far HK4.out.1 (by omega)) (by omega), hput2.1, hput2.2.2.2 _ _ (Nat.le_succ _) (hput1.2.2.2 _ _ (Nat.le_succ _) HK4.out.2.2)⟩
  have HO5 : Hid (OwnN ((v4.setCell ⟨w.heap.size + 1, 0, none⟩ (.slice (some ⟨g, 0, none⟩) M' M')).setCell ⟨w.heap.size + 1, 1, none⟩ (.int .i64 al)) (w.heap.size + 2) g M' M' Y) := hput2.own (hput1.own HO4.out (by omega)) (by omega)
  refine hJ.out _ _ (kp_conj HK5.out) (fun hHeld5 => ?_)
  clear hJ J kz HK4 HO4 hput1 hput2 hHeld4
  try simp only [Act.put, List.setIfInBounds_toArray, List.set_cons_zero, List.set_cons_succ, List.getElem_toArray, List.getElem_cons_zero, List.getElem_cons_succ]
  generalize (v4.setCell ⟨w.heap.size + 1, 0, none⟩ (.slice (some ⟨g, 0, none⟩) M' M')).setCell ⟨w.heap.size + 1, 1, none⟩ (.int .i64 al) = w5 at *
  refine wpAnyH_done (by kernel_rfl) ?_ _
  clear hHeld5
  obtain ⟨z0, z1, _⟩ := row2_cells HK5.out.2.1
  go_wp2
  refine bodyPost_ret (v := .agg #[.slice (some ⟨g, 0, none⟩) M' M', .int .i64 al]) (by simp only [results, Try.results15]; simp [go_sem, z0, z1]) rfl ⟨g, M', rfl, HO5.out.mono (by omega), HK5.out.2.2⟩
end Go.Proofs.Ytgpdkodnggpkeaa
