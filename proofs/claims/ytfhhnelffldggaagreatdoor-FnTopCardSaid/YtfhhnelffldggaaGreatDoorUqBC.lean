/-
  AddSat, what the states of the program's pump want and give.
-/
import Derived.Test.YtfhhnelffldggaaGreatDoorUqBA
import Derived.Great.BuildSlice
import Derived.Deep.CutBlock
set_option maxRecDepth 100000
set_option maxHeartbeats 16000000
namespace Go.Proofs.YtfhhnelffldggaaGreatDoor
open Go.RowKit Go.PlainAid
set_option linter.unusedVariables false
set_option linter.unusedSimpArgs false
theorem aqPmIgs {p : Prop} (h : p) : Hid p := h
def KQ (w w' : World) (Q : Nat) (x y : Value) (T : TypeId) : Prop := w'.heap[Q]? = some (.cells #[x, y] T) ∧ Below w.heap.size w w'
theorem row2_on {w w' : World} {k : Nat} {t : TypeId} {x y : Value} (h : w.heap[k]? = some (.cells #[x, y] t)) (hb : Below w.heap.size w w') : w'.heap[k]? = some (.cells #[x, y] t) := by
 have hlt : k < w.heap.size := by
  rcases Nat.lt_or_ge k w.heap.size with h' | h'
  · exact h'
  · rw [Array.getElem?_eq_none h'] at h; cases h
 rw [hb.block k hlt]
 exact h
theorem KQ.on {w w' w2 : World} {Q : Nat} {x y : Value} {T : TypeId} (h : KQ w w' Q x y T) (hb : Below w'.heap.size w' w2) : KQ w w2 Q x y T := ⟨row2_on h.1 hb, bel_on (Nat.le_refl _) h.2 hb⟩
theorem kq_conj {w w' : World} {Q : Nat} {x y : Value} {T : TypeId} (h : KQ w w' Q x y T) : w'.cell? ⟨Q, 0, none⟩ = some x ∧ w'.cell? ⟨Q, 1, none⟩ = some y ∧ KQ w w' Q x y T := by
 refine ⟨?_, ?_, h⟩ <;> simp [World.cell?, h.1]
theorem addI (a b x y t z : Int) (hx : Hid (min (max a (-1000000000000)) 1000000000000 = x)) (hy : Hid (min (max b (-1000000000000)) 1000000000000 = y)) (ht : IntKind.i64.wrap (x + y) = t) (hz : Hid (min (max t (-1000000000000)) 1000000000000 = z)) (w : World) : Calls Tryz.prog 186 #[.int .i64 a, .int .i64 b] w fun e w' => e = .returned (.int .i64 z) ∧ Below w.heap.size w w' := by
 go_enter Tryz.func186, Tryz.ntmps186
 go_wp2_with fail
 refine (bigI _).mono ?_
 rintro e w1 ⟨rfl, hb1⟩
 have HK0 : Hid (KQ w (w1.alloc (.cells #[.int .i64 (-1000000000000), .int .i64 1000000000000] 151)).drew w1.heap.size (.int .i64 (-1000000000000)) (.int .i64 1000000000000) 151) := ⟨heap_new w1 _, Below.drew (bel_on (Nat.le_refl _) hb1 (alP _ _))⟩
 clear hb1
 go_wp2_with fail
 refine wp_region_held_drew (S := fun w' => w'.cell? ⟨w1.heap.size, 0, none⟩ = some (.int .i64 (-1000000000000)) ∧ w'.cell? ⟨w1.heap.size, 1, none⟩ = some (.int .i64 1000000000000) ∧ KQ w w' w1.heap.size (.int .i64 (-1000000000000)) (.int .i64 1000000000000) 151) (by kernel_rfl) (kq_conj HK0.out) (fun hHeld => ?_)
 refine tkA (i := 0) (v := ?_) rfl (Or.inl ⟨by rfl, ?_⟩) ?_
 rotate_left
 · intro w_ hSw; (try dsimp only at hSw); go_simp <;> with_reducible rfl
 try simp only [Act.put, sA, sB, sC, sD, sE, sF]
 refine tkA (i := 1) (v := ?_) rfl (Or.inl ⟨by rfl, ?_⟩) ?_
 rotate_left
 · intro w_ hSw; (try dsimp only at hSw); go_simp <;> with_reducible rfl
 try simp only [Act.put, sA, sB, sC, sD, sE, sF]
 refine tkA (i := 2) (v := ?_) rfl (Or.inl ⟨by rfl, ?_⟩) ?_
 rotate_left
 · intro w_ hSw; (try dsimp only at hSw); go_simp <;> with_reducible rfl
 try simp only [Act.put, sA, sB, sC, sD, sE, sF]
 refine tkA (i := 4) (v := ?_) rfl (Or.inl ⟨by rfl, ?_⟩) ?_
 rotate_left
 · intro w_ hSw; (try dsimp only at hSw); go_simp <;> with_reducible rfl
 try simp only [Act.put, sA, sB, sC, sD, sE, sF]
 refine tkA (i := 5) (v := ?_) rfl (Or.inl ⟨by rfl, ?_⟩) ?_
 rotate_left
 · intro w_ hSw; (try dsimp only at hSw); go_simp <;> with_reducible rfl
 try simp only [Act.put, sA, sB, sC, sD, sE, sF]
 refine wpAnyH_ready (rs := [3]) (by kernel_rfl) (by simp) ?_
 refine AllReadyH.cons rfl (fun K hK => ?_) AllReadyH.nil
 go_simp
 go_at_call 149
 refine Calls.mono (intoI _ _ a x hx.out _) ?_
 rintro e v1 ⟨rfl, hbc⟩
 have HK1 := aqPmIgs (HK0.out.on hbc)
 go_wp2_with fail
 refine hK.out _ _ ?_ (fun hHeld1 => ?_)
 · exact kq_conj HK1.out
 clear hK K hbc HK0
 try simp only [Act.put, sA, sB, sC, sD, sE, sF]
 refine wpAnyH_ready (rs := [6]) (by kernel_rfl) (by simp) ?_
 refine AllReadyH.cons rfl (fun K hK => ?_) AllReadyH.nil
 go_simp
 go_at_call 149
 refine Calls.mono (intoI _ _ b y hy.out _) ?_
 rintro e v2 ⟨rfl, hbc⟩
 have HK2 := aqPmIgs (HK1.out.on hbc)
 go_wp2_with fail
 refine hK.out _ _ ?_ (fun hHeld2 => ?_)
 · exact kq_conj HK2.out
 clear hK K hbc HK1
 try simp only [Act.put, sA, sB, sC, sD, sE, sF]
 refine tkA (i := 7) (v := ?_) rfl (Or.inl ⟨by rfl, ?_⟩) ?_
 rotate_left
 · intro w_ hSw; (try dsimp only at hSw); go_simp <;> with_reducible rfl
 try simp only [Act.put, sA, sB, sC, sD, sE, sF]
 refine wpAnyH_ready (rs := [8]) (by kernel_rfl) (by simp) ?_
 refine AllReadyH.cons rfl (fun K hK => ?_) AllReadyH.nil
 go_simp
 go_at_call 149
 refine Calls.mono (intoI _ _ t z hz.out _) ?_
 rintro e v3 ⟨rfl, hbc⟩
 have HK3 := aqPmIgs (HK2.out.on hbc)
 go_wp2_with fail
 refine hK.out _ _ ?_ (fun hHeld3 => ?_)
 · exact kq_conj HK3.out
 clear hK K hbc HK2
 try simp only [Act.put, sA, sB, sC, sD, sE, sF]
 refine tkA (i := 9) (v := ?_) rfl (Or.inl ⟨by rfl, ?_⟩) ?_
 rotate_left
 · intro w_ hSw; (try dsimp only at hSw); go_simp <;> with_reducible rfl
 try simp only [Act.put, sA, sB, sC, sD, sE, sF]
 refine wpAnyH_done (by kernel_rfl) ?_ _
 go_wp2
 go_ret
 exact ⟨rfl, HK3.out.2⟩
theorem kpuI (s n d r l b g k r' y q z : Int) (KR : Hid (∀ w, Calls Tryz.prog 185 #[.agg #[.int .i64 n, .int .i64 d, .int .i64 r]] w fun e w' => e = .returned (.tuple #[.agg #[.int .i64 n, .int .i64 d, .int .i64 r'], .int .i64 y]) ∧ Below w.heap.size w w')) (hq : Hid (min b 3 = q)) (hz : IntKind.i64.wrap (y + q) = z) (w : World) : Calls Tryz.prog 137 #[PV s n d r l b g k] w fun e w' => e = .returned (.int .i64 z) ∧ Below w.heap.size w w' := by
 have HB0 : Hid (Below w.heap.size w (w.alloc (PB s n d r l b g k))) := alP _ _
 have HP0 : Hid ((w.alloc (PB s n d r l b g k)).heap[w.heap.size]? = some (PB s n d r l b g k)) := heap_new w _
 have p0 := box8_cells HP0.out
 have HK0 : Hid (KP w (w.alloc (PB s n d r l b g k)).drew (PB s n d r l b g k)) := ⟨HP0.out, HB0.out.drew⟩
 go_enter Tryz.func137, Tryz.ntmps137
 go_wp2_with fail
 clear p0 HB0 HP0
 refine wp_region_held_drew (S := fun w' => w'.cell? ⟨w.heap.size, 0, none⟩ = some (.int .i64 s) ∧ w'.cell? ⟨w.heap.size, 1, none⟩ = some (.int .i64 n) ∧ w'.cell? ⟨w.heap.size, 2, none⟩ = some (.int .i64 d) ∧ w'.cell? ⟨w.heap.size, 3, none⟩ = some (.int .i64 r) ∧ w'.cell? ⟨w.heap.size, 4, none⟩ = some (.int .i64 l) ∧ w'.cell? ⟨w.heap.size, 5, none⟩ = some (.int .i64 b) ∧ w'.cell? ⟨w.heap.size, 6, none⟩ = some (.int .i64 g) ∧ w'.cell? ⟨w.heap.size, 7, none⟩ = some (.int .i64 k) ∧ KP w w' (PB s n d r l b g k)) (by kernel_rfl) (kp_conj HK0.out) (fun hHeld => ?_)
 refine tkA (i := 0) (v := ?_) rfl (Or.inl ⟨by rfl, ?_⟩) ?_
 rotate_left
 · intro w_ hSw; (try dsimp only at hSw); go_simp <;> with_reducible rfl
 try simp only [Act.put, sA, sB, sC, sD, sE, sF]
 refine tkA (i := 2) (v := ?_) rfl (Or.inl ⟨by rfl, ?_⟩) ?_
 rotate_left
 · intro w_ hSw; (try dsimp only at hSw); go_simp <;> with_reducible rfl
 try simp only [Act.put, sA, sB, sC, sD, sE, sF]
 refine wpAnyH_ready (rs := [1]) (by kernel_rfl) (by simp) ?_
 refine AllReadyH.cons rfl (fun K hK => ?_) AllReadyH.nil
 go_simp
 go_at_call 172
 refine Calls.mono (rtpI s n d r l b g k r' y KR _) ?_
 rintro e v1 ⟨rfl, hbc⟩
 have HK1 := aqPmIgs (HK0.out.on hbc)
 go_wp2_with fail
 refine hK.out _ _ ?_ (fun hHeld1 => ?_)
 · exact kp_conj HK1.out
 clear hK K hbc HK0
 try simp only [Act.put, sA, sB, sC, sD, sE, sF]
 refine wpAnyH_ready (rs := [3]) (by kernel_rfl) (by simp) ?_
 refine AllReadyH.cons rfl (fun K hK => ?_) AllReadyH.nil
 go_simp
 go_at_call 173
 refine Calls.mono (bolI s n d r l b g k q hq.out _) ?_
 rintro e v2 ⟨rfl, hbc⟩
 have HK2 := aqPmIgs (HK1.out.on hbc)
 go_wp2_with fail
 refine hK.out _ _ ?_ (fun hHeld2 => ?_)
 · exact kp_conj HK2.out
 clear hK K hbc HK1
 try simp only [Act.put, sA, sB, sC, sD, sE, sF]
 refine tkA (i := 4) (v := ?_) rfl (Or.inl ⟨by rfl, ?_⟩) ?_
 rotate_left
 · intro w_ hSw; (try dsimp only at hSw); go_simp <;> with_reducible rfl
 try simp only [Act.put, sA, sB, sC, sD, sE, sF]
 refine tkA (i := 5) (v := ?_) rfl (Or.inl ⟨by rfl, ?_⟩) ?_
 rotate_left
 · intro w_ hSw; (try dsimp only at hSw); go_simp <;> with_reducible rfl
 try simp only [Act.put, sA, sB, sC, sD, sE, sF]
 refine wpAnyH_done (by kernel_rfl) ?_ _
 go_wp2
 go_ret
 exact ⟨rfl, HK2.out.2⟩
theorem bpuI_y (s n d r l b g k r' y q z : Int) (KR : Hid (∀ w, Calls Tryz.prog 185 #[.agg #[.int .i64 n, .int .i64 d, .int .i64 r]] w fun e w' => e = .returned (.tuple #[.agg #[.int .i64 n, .int .i64 d, .int .i64 r'], .int .i64 y]) ∧ Below w.heap.size w w')) (hm : y ≤ l) (hq : Hid (min b 3 = q)) (hz : IntKind.i64.wrap (y + q) = z) (w : World) : Calls Tryz.prog 134 #[PV s n d r l b g k] w fun e w' => e = .returned (.int .i64 z) ∧ Below w.heap.size w w' := by
 have HB0 : Hid (Below w.heap.size w (w.alloc (PB s n d r l b g k))) := alP _ _
 have HP0 : Hid ((w.alloc (PB s n d r l b g k)).heap[w.heap.size]? = some (PB s n d r l b g k)) := heap_new w _
 have p0 := box8_cells HP0.out
 have HK0 : Hid (KP w (w.alloc (PB s n d r l b g k)).drew (PB s n d r l b g k)) := ⟨HP0.out, HB0.out.drew⟩
 go_enter Tryz.func134, Tryz.ntmps134
 go_wp2_with fail
 clear p0 HB0 HP0
 refine wp_region_held_drew (S := fun w' => w'.cell? ⟨w.heap.size, 0, none⟩ = some (.int .i64 s) ∧ w'.cell? ⟨w.heap.size, 1, none⟩ = some (.int .i64 n) ∧ w'.cell? ⟨w.heap.size, 2, none⟩ = some (.int .i64 d) ∧ w'.cell? ⟨w.heap.size, 3, none⟩ = some (.int .i64 r) ∧ w'.cell? ⟨w.heap.size, 4, none⟩ = some (.int .i64 l) ∧ w'.cell? ⟨w.heap.size, 5, none⟩ = some (.int .i64 b) ∧ w'.cell? ⟨w.heap.size, 6, none⟩ = some (.int .i64 g) ∧ w'.cell? ⟨w.heap.size, 7, none⟩ = some (.int .i64 k) ∧ KP w w' (PB s n d r l b g k)) (by kernel_rfl) (kp_conj HK0.out) (fun hHeld => ?_)
 refine tkA (i := 0) (v := ?_) rfl (Or.inl ⟨by rfl, ?_⟩) ?_
 rotate_left
 · intro w_ hSw; (try dsimp only at hSw); go_simp <;> with_reducible rfl
 try simp only [Act.put, sA, sB, sC, sD, sE, sF]
 refine tkA (i := 2) (v := ?_) rfl (Or.inl ⟨by rfl, ?_⟩) ?_
 rotate_left
 · intro w_ hSw; (try dsimp only at hSw); go_simp <;> with_reducible rfl
 try simp only [Act.put, sA, sB, sC, sD, sE, sF]
 refine tkA (i := 3) (v := ?_) rfl (Or.inl ⟨by rfl, ?_⟩) ?_
 rotate_left
 · intro w_ hSw; (try dsimp only at hSw); go_simp <;> with_reducible rfl
 try simp only [Act.put, sA, sB, sC, sD, sE, sF]
 refine tkA (i := 5) (v := ?_) rfl (Or.inl ⟨by rfl, ?_⟩) ?_
 rotate_left
 · intro w_ hSw; (try dsimp only at hSw); go_simp <;> with_reducible rfl
 try simp only [Act.put, sA, sB, sC, sD, sE, sF]
 refine wpAnyH_ready (rs := [1]) (by kernel_rfl) (by simp) ?_
 refine AllReadyH.cons rfl (fun K hK => ?_) AllReadyH.nil
 go_simp
 go_at_call 172
 refine Calls.mono (rtpI s n d r l b g k r' y KR _) ?_
 rintro e v1 ⟨rfl, hbc⟩
 have HK1 := aqPmIgs (HK0.out.on hbc)
 go_wp2_with fail
 refine hK.out _ _ ?_ (fun hHeld1 => ?_)
 · exact kp_conj HK1.out
 clear hK K hbc HK0
 try simp only [Act.put, sA, sB, sC, sD, sE, sF]
 refine tkA (i := 4) (v := ?_) rfl (Or.inl ⟨by rfl, ?_⟩) ?_
 rotate_left
 · intro w_ hSw; (try dsimp only at hSw); go_simp <;> with_reducible rfl
 try simp only [Act.put, sA, sB, sC, sD, sE, sF]
 refine wpAnyH_ready (rs := [6]) (by kernel_rfl) (by simp) ?_
 refine AllReadyH.cons rfl (fun K hK => ?_) AllReadyH.nil
 go_simp
 go_at_call 173
 refine Calls.mono (bolI s n d r l b g k q hq.out _) ?_
 rintro e v2 ⟨rfl, hbc⟩
 have HK2 := aqPmIgs (HK1.out.on hbc)
 go_wp2_with fail
 refine hK.out _ _ ?_ (fun hHeld2 => ?_)
 · exact kp_conj HK2.out
 clear hK K hbc HK1
 try simp only [Act.put, sA, sB, sC, sD, sE, sF]
 refine tkA (i := 7) (v := ?_) rfl (Or.inl ⟨by rfl, ?_⟩) ?_
 rotate_left
 · intro w_ hSw; (try dsimp only at hSw); go_simp <;> with_reducible rfl
 try simp only [Act.put, sA, sB, sC, sD, sE, sF]
 refine tkA (i := 8) (v := ?_) rfl (Or.inl ⟨by rfl, ?_⟩) ?_
 rotate_left
 · intro w_ hSw; (try dsimp only at hSw); go_simp <;> with_reducible rfl
 try simp only [Act.put, sA, sB, sC, sD, sE, sF]
 refine wpAnyH_done (by kernel_rfl) ?_ _
 go_wp2
 go_ret
 exact ⟨rfl, HK2.out.2⟩
theorem bpuI_l (s n d r l b g k r' y q z : Int) (KR : Hid (∀ w, Calls Tryz.prog 185 #[.agg #[.int .i64 n, .int .i64 d, .int .i64 r]] w fun e w' => e = .returned (.tuple #[.agg #[.int .i64 n, .int .i64 d, .int .i64 r'], .int .i64 y]) ∧ Below w.heap.size w w')) (hm : ¬ y ≤ l) (hq : Hid (min b 3 = q)) (hz : IntKind.i64.wrap (l + q) = z) (w : World) : Calls Tryz.prog 134 #[PV s n d r l b g k] w fun e w' => e = .returned (.int .i64 z) ∧ Below w.heap.size w w' := by
 have HB0 : Hid (Below w.heap.size w (w.alloc (PB s n d r l b g k))) := alP _ _
 have HP0 : Hid ((w.alloc (PB s n d r l b g k)).heap[w.heap.size]? = some (PB s n d r l b g k)) := heap_new w _
 have p0 := box8_cells HP0.out
 have HK0 : Hid (KP w (w.alloc (PB s n d r l b g k)).drew (PB s n d r l b g k)) := ⟨HP0.out, HB0.out.drew⟩
 go_enter Tryz.func134, Tryz.ntmps134
 go_wp2_with fail
 clear p0 HB0 HP0
 refine wp_region_held_drew (S := fun w' => w'.cell? ⟨w.heap.size, 0, none⟩ = some (.int .i64 s) ∧ w'.cell? ⟨w.heap.size, 1, none⟩ = some (.int .i64 n) ∧ w'.cell? ⟨w.heap.size, 2, none⟩ = some (.int .i64 d) ∧ w'.cell? ⟨w.heap.size, 3, none⟩ = some (.int .i64 r) ∧ w'.cell? ⟨w.heap.size, 4, none⟩ = some (.int .i64 l) ∧ w'.cell? ⟨w.heap.size, 5, none⟩ = some (.int .i64 b) ∧ w'.cell? ⟨w.heap.size, 6, none⟩ = some (.int .i64 g) ∧ w'.cell? ⟨w.heap.size, 7, none⟩ = some (.int .i64 k) ∧ KP w w' (PB s n d r l b g k)) (by kernel_rfl) (kp_conj HK0.out) (fun hHeld => ?_)
 refine tkA (i := 0) (v := ?_) rfl (Or.inl ⟨by rfl, ?_⟩) ?_
 rotate_left
 · intro w_ hSw; (try dsimp only at hSw); go_simp <;> with_reducible rfl
 try simp only [Act.put, sA, sB, sC, sD, sE, sF]
 refine tkA (i := 2) (v := ?_) rfl (Or.inl ⟨by rfl, ?_⟩) ?_
 rotate_left
 · intro w_ hSw; (try dsimp only at hSw); go_simp <;> with_reducible rfl
 try simp only [Act.put, sA, sB, sC, sD, sE, sF]
 refine tkA (i := 3) (v := ?_) rfl (Or.inl ⟨by rfl, ?_⟩) ?_
 rotate_left
 · intro w_ hSw; (try dsimp only at hSw); go_simp <;> with_reducible rfl
 try simp only [Act.put, sA, sB, sC, sD, sE, sF]
 refine tkA (i := 5) (v := ?_) rfl (Or.inl ⟨by rfl, ?_⟩) ?_
 rotate_left
 · intro w_ hSw; (try dsimp only at hSw); go_simp <;> with_reducible rfl
 try simp only [Act.put, sA, sB, sC, sD, sE, sF]
 refine wpAnyH_ready (rs := [1]) (by kernel_rfl) (by simp) ?_
 refine AllReadyH.cons rfl (fun K hK => ?_) AllReadyH.nil
 go_simp
 go_at_call 172
 refine Calls.mono (rtpI s n d r l b g k r' y KR _) ?_
 rintro e v1 ⟨rfl, hbc⟩
 have HK1 := aqPmIgs (HK0.out.on hbc)
 go_wp2_with fail
 refine hK.out _ _ ?_ (fun hHeld1 => ?_)
 · exact kp_conj HK1.out
 clear hK K hbc HK0
 try simp only [Act.put, sA, sB, sC, sD, sE, sF]
 refine tkA (i := 4) (v := ?_) rfl (Or.inl ⟨by rfl, ?_⟩) ?_
 rotate_left
 · intro w_ hSw; (try dsimp only at hSw); go_simp <;> with_reducible rfl
 try simp only [Act.put, sA, sB, sC, sD, sE, sF]
 refine wpAnyH_ready (rs := [6]) (by kernel_rfl) (by simp) ?_
 refine AllReadyH.cons rfl (fun K hK => ?_) AllReadyH.nil
 go_simp
 go_at_call 173
 refine Calls.mono (bolI s n d r l b g k q hq.out _) ?_
 rintro e v2 ⟨rfl, hbc⟩
 have HK2 := aqPmIgs (HK1.out.on hbc)
 go_wp2_with fail
 refine hK.out _ _ ?_ (fun hHeld2 => ?_)
 · exact kp_conj HK2.out
 clear hK K hbc HK1
 try simp only [Act.put, sA, sB, sC, sD, sE, sF]
 refine tkA (i := 7) (v := ?_) rfl (Or.inl ⟨by rfl, ?_⟩) ?_
 rotate_left
 · intro w_ hSw; (try dsimp only at hSw); go_simp <;> with_reducible rfl
 try simp only [Act.put, sA, sB, sC, sD, sE, sF]
 refine tkA (i := 8) (v := ?_) rfl (Or.inl ⟨by rfl, ?_⟩) ?_
 rotate_left
 · intro w_ hSw; (try dsimp only at hSw); go_simp <;> with_reducible rfl
 try simp only [Act.put, sA, sB, sC, sD, sE, sF]
 refine wpAnyH_done (by kernel_rfl) ?_ _
 go_wp2
 go_ret
 exact ⟨rfl, HK2.out.2⟩
theorem tikI_a (s n d r l b g k a r' y q B G : Int) (KR : Hid (∀ w, Calls Tryz.prog 185 #[.agg #[.int .i64 n, .int .i64 d, .int .i64 r]] w fun e w' => e = .returned (.tuple #[.agg #[.int .i64 n, .int .i64 d, .int .i64 r'], .int .i64 y]) ∧ Below w.heap.size w w')) (KA : Hid (∀ w, Calls Tryz.prog 186 #[.int .i64 g, .int .i64 a] w fun e w' => e = .returned (.int .i64 G) ∧ Below w.heap.size w w')) (hq : Hid (min b 3 = q)) (hm : a ≤ q) (eB : IntKind.i64.wrap (b - a) = B) (w : World) : Calls Tryz.prog 174 #[PV s n d r l b g k, .int .i64 a] w fun e w' => e = .returned (.tuple #[PV s n d r' l B G k, .int .i64 0]) ∧ Below w.heap.size w w' := by
 have HB0 : Hid (Below w.heap.size w ((w.alloc (PB s n d r l b g k)).alloc (PB 0 0 0 0 0 0 0 0))) := bel_on (Nat.le_refl _) (alP _ _) (alP _ _)
 have HP0 : Hid (((w.alloc (PB s n d r l b g k)).alloc (PB 0 0 0 0 0 0 0 0)).heap[w.heap.size]? = some (PB s n d r l b g k)) := row_on (heap_new w _) (alP _ _)
 have HZ0 : Hid (((w.alloc (PB s n d r l b g k)).alloc (PB 0 0 0 0 0 0 0 0)).heap[w.heap.size + 1]? = some (PB 0 0 0 0 0 0 0 0)) := al_at (w.alloc (PB s n d r l b g k)) _ (by simp)
 have p0 := box8_cells HP0.out
 go_enter Tryz.func174, Tryz.ntmps174
 go_wp2_with fail
 refine Calls.mono (bolI s n d r l b g k q hq.out _) ?_
 rintro e w1 ⟨rfl, hb⟩
 have HB1 := bq HB0 hb
 have HP1 := rq HP0 hb
 have HZ1 := rq HZ0 hb
 have p1 := box8_cells HP1.out
 clear hb HB0 HP0 HZ0 p0
 go_wp2_with fail
 refine Calls.mono (KR.out _) ?_
 rintro e w2 ⟨rfl, hb⟩
 have HB2 := bq HB1 hb
 have HP2 := rq HP1 hb
 have HZ2 := rq HZ1 hb
 have p2 := box8_cells HP2.out
 clear hb HB1 HP1 HZ1 p1
 go_wp2_with (refine listStoreR rfl rfl _ _ _ rfl rfl w.heap.size (n) (d) (r') rfl rfl HP2.out ?_)
 intro w3 hr ho hs hB
 have HB3 := aqPmIgs (hB _ _ (Nat.le_refl _) HB2.out)
 have HP3 := aqPmIgs hr
 have HZ3 := aqPmIgs ((ho _ (by omega)).trans HZ2.out)
 have p3 := box8_cells HP3.out
 clear hr ho hs hB HB2 HP2 HZ2 p2
 go_upto_region 3 with fail
 go_wp2_with (refine listStoreC rfl rfl _ _ _ rfl rfl w.heap.size 5 (B) rfl rfl HP3.out (by simp) ?_)
 intro w4 hr ho hs hB
 have HB4 := aqPmIgs (hB _ _ (Nat.le_refl _) HB3.out)
 have HP4 := aqPmIgs hr
 have HZ4 := aqPmIgs ((ho _ (by omega)).trans HZ3.out)
 have p4 := box8_cells HP4.out
 clear hr ho hs hB HB3 HP3 HZ3 p3
 go_wp2_with fail
 refine Calls.mono (KA.out _) ?_
 rintro e w5 ⟨rfl, hb⟩
 have HB5 := bq HB4 hb
 have HP5 := rq HP4 hb
 have HZ5 := rq HZ4 hb
 have p5 := box8_cells HP5.out
 clear hb HB4 HP4 HZ4 p4
 go_wp2_with (refine listStoreC rfl rfl _ _ _ rfl rfl w.heap.size 6 (G) rfl rfl HP5.out (by simp) ?_)
 intro w6 hr ho hs hB
 have HB6 := aqPmIgs (hB _ _ (Nat.le_refl _) HB5.out)
 have HP6 := aqPmIgs hr
 have HZ6 := aqPmIgs ((ho _ (by omega)).trans HZ5.out)
 have p6 := box8_cells HP6.out
 clear hr ho hs hB HB5 HP5 HZ5 p5
 go_upto_region 5 with fail
 go_wp2_with (refine listStoreP rfl rfl _ _ _ rfl rfl (w.heap.size + 1) (s) (n) (d) (r') (l) (B) (G) (k) rfl rfl HZ6.out ?_)
 intro w99 hr9 ho9 hs9 hB9
 have HF := aqPmIgs (hB9 _ _ (Nat.le_succ _) HB6.out)
 obtain ⟨⟨q0, q1, q2, q3, q4, q5, q6, q7⟩, _⟩ := box8_cells hr9
 clear ho9 hs9 hB9 hr9
 go_wp2
 refine bodyPost_ret (v := .tuple #[PV s n d r' l B G k, .int .i64 0]) (by simp only [results, Tryz.results174]; simp [go_sem, q0, q1, q2, q3, q4, q5, q6, q7]) rfl ⟨rfl, HF.out⟩
theorem tikI_q (s n d r l b g k a r' y q B G x : Int) (KR : Hid (∀ w, Calls Tryz.prog 185 #[.agg #[.int .i64 n, .int .i64 d, .int .i64 r]] w fun e w' => e = .returned (.tuple #[.agg #[.int .i64 n, .int .i64 d, .int .i64 r'], .int .i64 y]) ∧ Below w.heap.size w w')) (KA : Hid (∀ w, Calls Tryz.prog 186 #[.int .i64 g, .int .i64 a] w fun e w' => e = .returned (.int .i64 G) ∧ Below w.heap.size w w')) (hq : Hid (min b 3 = q)) (hm : ¬ a ≤ q) (eB : IntKind.i64.wrap (b - q) = B) (ex : IntKind.i64.wrap (a - q) = x) (w : World) : Calls Tryz.prog 174 #[PV s n d r l b g k, .int .i64 a] w fun e w' => e = .returned (.tuple #[PV s n d r' l B G k, .int .i64 x]) ∧ Below w.heap.size w w' := by
 have HB0 : Hid (Below w.heap.size w ((w.alloc (PB s n d r l b g k)).alloc (PB 0 0 0 0 0 0 0 0))) := bel_on (Nat.le_refl _) (alP _ _) (alP _ _)
 have HP0 : Hid (((w.alloc (PB s n d r l b g k)).alloc (PB 0 0 0 0 0 0 0 0)).heap[w.heap.size]? = some (PB s n d r l b g k)) := row_on (heap_new w _) (alP _ _)
 have HZ0 : Hid (((w.alloc (PB s n d r l b g k)).alloc (PB 0 0 0 0 0 0 0 0)).heap[w.heap.size + 1]? = some (PB 0 0 0 0 0 0 0 0)) := al_at (w.alloc (PB s n d r l b g k)) _ (by simp)
 have p0 := box8_cells HP0.out
 go_enter Tryz.func174, Tryz.ntmps174
 go_wp2_with fail
 refine Calls.mono (bolI s n d r l b g k q hq.out _) ?_
 rintro e w1 ⟨rfl, hb⟩
 have HB1 := bq HB0 hb
 have HP1 := rq HP0 hb
 have HZ1 := rq HZ0 hb
 have p1 := box8_cells HP1.out
 clear hb HB0 HP0 HZ0 p0
 go_wp2_with fail
 refine Calls.mono (KR.out _) ?_
 rintro e w2 ⟨rfl, hb⟩
 have HB2 := bq HB1 hb
 have HP2 := rq HP1 hb
 have HZ2 := rq HZ1 hb
 have p2 := box8_cells HP2.out
 clear hb HB1 HP1 HZ1 p1
 go_wp2_with (refine listStoreR rfl rfl _ _ _ rfl rfl w.heap.size (n) (d) (r') rfl rfl HP2.out ?_)
 intro w3 hr ho hs hB
 have HB3 := aqPmIgs (hB _ _ (Nat.le_refl _) HB2.out)
 have HP3 := aqPmIgs hr
 have HZ3 := aqPmIgs ((ho _ (by omega)).trans HZ2.out)
 have p3 := box8_cells HP3.out
 clear hr ho hs hB HB2 HP2 HZ2 p2
 go_upto_region 3 with fail
 go_wp2_with (refine listStoreC rfl rfl _ _ _ rfl rfl w.heap.size 5 (B) rfl rfl HP3.out (by simp) ?_)
 intro w4 hr ho hs hB
 have HB4 := aqPmIgs (hB _ _ (Nat.le_refl _) HB3.out)
 have HP4 := aqPmIgs hr
 have HZ4 := aqPmIgs ((ho _ (by omega)).trans HZ3.out)
 have p4 := box8_cells HP4.out
 clear hr ho hs hB HB3 HP3 HZ3 p3
 go_wp2_with fail
 refine Calls.mono (KA.out _) ?_
 rintro e w5 ⟨rfl, hb⟩
 have HB5 := bq HB4 hb
 have HP5 := rq HP4 hb
 have HZ5 := rq HZ4 hb
 have p5 := box8_cells HP5.out
 clear hb HB4 HP4 HZ4 p4
 go_wp2_with (refine listStoreC rfl rfl _ _ _ rfl rfl w.heap.size 6 (G) rfl rfl HP5.out (by simp) ?_)
 intro w6 hr ho hs hB
 have HB6 := aqPmIgs (hB _ _ (Nat.le_refl _) HB5.out)
 have HP6 := aqPmIgs hr
 have HZ6 := aqPmIgs ((ho _ (by omega)).trans HZ5.out)
 have p6 := box8_cells HP6.out
 clear hr ho hs hB HB5 HP5 HZ5 p5
 go_upto_region 5 with fail
 go_wp2_with (refine listStoreP rfl rfl _ _ _ rfl rfl (w.heap.size + 1) (s) (n) (d) (r') (l) (B) (G) (k) rfl rfl HZ6.out ?_)
 intro w99 hr9 ho9 hs9 hB9
 have HF := aqPmIgs (hB9 _ _ (Nat.le_succ _) HB6.out)
 obtain ⟨⟨q0, q1, q2, q3, q4, q5, q6, q7⟩, _⟩ := box8_cells hr9
 clear ho9 hs9 hB9 hr9
 go_wp2
 refine bodyPost_ret (v := .tuple #[PV s n d r' l B G k, .int .i64 x]) (by simp only [results, Tryz.results174]; simp [go_sem, q0, q1, q2, q3, q4, q5, q6, q7]) rfl ⟨rfl, HF.out⟩
theorem gkI (s n d r l b g k a x z0 z1 z2 z3 z4 z5 z6 z7 : Int) (KT : Hid (∀ w, Calls Tryz.prog 174 #[PV s n d r l b g k, .int .i64 a] w fun e w' => e = .returned (.tuple #[PV z0 z1 z2 z3 z4 z5 z6 z7, .int .i64 x]) ∧ Below w.heap.size w w'))  (w : World) : Calls Tryz.prog 138 #[PV s n d r l b g k, .int .i64 a] w fun e w' => e = .returned (PV z0 z1 z2 z3 z4 z5 z6 z7) ∧ Below w.heap.size w w' := by
 have HB0 : Hid (Below w.heap.size w ((w.alloc (PB s n d r l b g k)).alloc (PB 0 0 0 0 0 0 0 0))) := bel_on (Nat.le_refl _) (alP _ _) (alP _ _)
 have HP0 : Hid (((w.alloc (PB s n d r l b g k)).alloc (PB 0 0 0 0 0 0 0 0)).heap[w.heap.size]? = some (PB s n d r l b g k)) := row_on (heap_new w _) (alP _ _)
 have HZ0 : Hid (((w.alloc (PB s n d r l b g k)).alloc (PB 0 0 0 0 0 0 0 0)).heap[w.heap.size + 1]? = some (PB 0 0 0 0 0 0 0 0)) := al_at (w.alloc (PB s n d r l b g k)) _ (by simp)
 have p0 := box8_cells HP0.out
 go_enter Tryz.func138, Tryz.ntmps138
 go_wp2_with fail
 refine Calls.mono (KT.out _) ?_
 rintro e w1 ⟨rfl, hb⟩
 have HB1 := bq HB0 hb
 have HP1 := rq HP0 hb
 have HZ1 := rq HZ0 hb
 have p1 := box8_cells HP1.out
 clear hb HB0 HP0 HZ0 p0
 go_wp2_with (refine listStoreP rfl rfl _ _ _ rfl rfl w.heap.size (z0) (z1) (z2) (z3) (z4) (z5) (z6) (z7) rfl rfl HP1.out ?_)
 intro w2 hr ho hs hB
 have HB2 := aqPmIgs (hB _ _ (Nat.le_refl _) HB1.out)
 have HP2 := aqPmIgs hr
 have HZ2 := aqPmIgs ((ho _ (by omega)).trans HZ1.out)
 have p2 := box8_cells HP2.out
 clear hr ho hs hB HB1 HP1 HZ1 p1
 go_upto_region 2 with fail
 go_wp2_with (refine listStoreP rfl rfl _ _ _ rfl rfl (w.heap.size + 1) (z0) (z1) (z2) (z3) (z4) (z5) (z6) (z7) rfl rfl HZ2.out ?_)
 intro w99 hr9 ho9 hs9 hB9
 have HF := aqPmIgs (hB9 _ _ (Nat.le_succ _) HB2.out)
 obtain ⟨⟨q0, q1, q2, q3, q4, q5, q6, q7⟩, _⟩ := box8_cells hr9
 clear ho9 hs9 hB9 hr9
 go_wp2
 refine bodyPost_ret (v := PV z0 z1 z2 z3 z4 z5 z6 z7) (by simp only [results, Tryz.results138]; simp [go_sem, q0, q1, q2, q3, q4, q5, q6, q7]) rfl ⟨rfl, HF.out⟩
theorem gbI_n (s n d r l b g k a x z0 z1 z2 z3 z4 z5 z6 z7 : Int) (KT : Hid (∀ w, Calls Tryz.prog 174 #[PV s n d r l b g k, .int .i64 a] w fun e w' => e = .returned (.tuple #[PV z0 z1 z2 z3 z4 z5 z6 z7, .int .i64 x]) ∧ Below w.heap.size w w')) {L : Int} (eL : IntKind.i64.wrap (z4 - x) = L) (hL : (L == 0) = false) (w : World) : Calls Tryz.prog 135 #[PV s n d r l b g k, .int .i64 a] w fun e w' => e = .returned (PV z0 z1 z2 z3 L z5 z6 z7) ∧ Below w.heap.size w w' := by
 have HB0 : Hid (Below w.heap.size w ((w.alloc (PB s n d r l b g k)).alloc (PB 0 0 0 0 0 0 0 0))) := bel_on (Nat.le_refl _) (alP _ _) (alP _ _)
 have HP0 : Hid (((w.alloc (PB s n d r l b g k)).alloc (PB 0 0 0 0 0 0 0 0)).heap[w.heap.size]? = some (PB s n d r l b g k)) := row_on (heap_new w _) (alP _ _)
 have HZ0 : Hid (((w.alloc (PB s n d r l b g k)).alloc (PB 0 0 0 0 0 0 0 0)).heap[w.heap.size + 1]? = some (PB 0 0 0 0 0 0 0 0)) := al_at (w.alloc (PB s n d r l b g k)) _ (by simp)
 have p0 := box8_cells HP0.out
 go_enter Tryz.func135, Tryz.ntmps135
 go_wp2_with fail
 refine Calls.mono (KT.out _) ?_
 rintro e w1 ⟨rfl, hb⟩
 have HB1 := bq HB0 hb
 have HP1 := rq HP0 hb
 have HZ1 := rq HZ0 hb
 have p1 := box8_cells HP1.out
 clear hb HB0 HP0 HZ0 p0
 go_wp2_with (refine listStoreP rfl rfl _ _ _ rfl rfl w.heap.size (z0) (z1) (z2) (z3) (z4) (z5) (z6) (z7) rfl rfl HP1.out ?_)
 intro w2 hr ho hs hB
 have HB2 := aqPmIgs (hB _ _ (Nat.le_refl _) HB1.out)
 have HP2 := aqPmIgs hr
 have HZ2 := aqPmIgs ((ho _ (by omega)).trans HZ1.out)
 have p2 := box8_cells HP2.out
 clear hr ho hs hB HB1 HP1 HZ1 p1
 go_upto_region 2 with fail
 go_wp2_with (refine listStoreC rfl rfl _ _ _ rfl rfl w.heap.size 4 (L) rfl rfl HP2.out (by simp) ?_)
 intro w3 hr ho hs hB
 have HB3 := aqPmIgs (hB _ _ (Nat.le_refl _) HB2.out)
 have HP3 := aqPmIgs hr
 have HZ3 := aqPmIgs ((ho _ (by omega)).trans HZ2.out)
 have p3 := box8_cells HP3.out
 clear hr ho hs hB HB2 HP2 HZ2 p2
 go_upto_region 5 with fail
 go_wp2_with (refine listStoreP rfl rfl _ _ _ rfl rfl (w.heap.size + 1) (z0) (z1) (z2) (z3) (L) (z5) (z6) (z7) rfl rfl HZ3.out ?_)
 intro w99 hr9 ho9 hs9 hB9
 have HF := aqPmIgs (hB9 _ _ (Nat.le_succ _) HB3.out)
 obtain ⟨⟨q0, q1, q2, q3, q4, q5, q6, q7⟩, _⟩ := box8_cells hr9
 clear ho9 hs9 hB9 hr9
 go_wp2
 refine bodyPost_ret (v := PV z0 z1 z2 z3 L z5 z6 z7) (by simp only [results, Tryz.results135]; simp [go_sem, q0, q1, q2, q3, q4, q5, q6, q7]) rfl ⟨rfl, HF.out⟩
theorem gbI_0 (s n d r l b g k a x z0 z1 z2 z3 z4 z5 z6 z7 : Int) (KT : Hid (∀ w, Calls Tryz.prog 174 #[PV s n d r l b g k, .int .i64 a] w fun e w' => e = .returned (.tuple #[PV z0 z1 z2 z3 z4 z5 z6 z7, .int .i64 x]) ∧ Below w.heap.size w w')) (eL : IntKind.i64.wrap (z4 - x) = 0) (w : World) : Calls Tryz.prog 135 #[PV s n d r l b g k, .int .i64 a] w fun e w' => e = .returned (PV 2 1 50 0 0 z5 z6 z7) ∧ Below w.heap.size w w' := by
 have HB0 : Hid (Below w.heap.size w ((w.alloc (PB s n d r l b g k)).alloc (PB 0 0 0 0 0 0 0 0))) := bel_on (Nat.le_refl _) (alP _ _) (alP _ _)
 have HP0 : Hid (((w.alloc (PB s n d r l b g k)).alloc (PB 0 0 0 0 0 0 0 0)).heap[w.heap.size]? = some (PB s n d r l b g k)) := row_on (heap_new w _) (alP _ _)
 have HZ0 : Hid (((w.alloc (PB s n d r l b g k)).alloc (PB 0 0 0 0 0 0 0 0)).heap[w.heap.size + 1]? = some (PB 0 0 0 0 0 0 0 0)) := al_at (w.alloc (PB s n d r l b g k)) _ (by simp)
 have p0 := box8_cells HP0.out
 go_enter Tryz.func135, Tryz.ntmps135
 go_wp2_with fail
 refine Calls.mono (KT.out _) ?_
 rintro e w1 ⟨rfl, hb⟩
 have HB1 := bq HB0 hb
 have HP1 := rq HP0 hb
 have HZ1 := rq HZ0 hb
 have p1 := box8_cells HP1.out
 clear hb HB0 HP0 HZ0 p0
 go_wp2_with (refine listStoreP rfl rfl _ _ _ rfl rfl w.heap.size (z0) (z1) (z2) (z3) (z4) (z5) (z6) (z7) rfl rfl HP1.out ?_)
 intro w2 hr ho hs hB
 have HB2 := aqPmIgs (hB _ _ (Nat.le_refl _) HB1.out)
 have HP2 := aqPmIgs hr
 have HZ2 := aqPmIgs ((ho _ (by omega)).trans HZ1.out)
 have p2 := box8_cells HP2.out
 clear hr ho hs hB HB1 HP1 HZ1 p1
 go_upto_region 2 with fail
 go_wp2_with (refine listStoreC rfl rfl _ _ _ rfl rfl w.heap.size 4 (0) rfl rfl HP2.out (by simp) ?_)
 intro w3 hr ho hs hB
 have HB3 := aqPmIgs (hB _ _ (Nat.le_refl _) HB2.out)
 have HP3 := aqPmIgs hr
 have HZ3 := aqPmIgs ((ho _ (by omega)).trans HZ2.out)
 have p3 := box8_cells HP3.out
 clear hr ho hs hB HB2 HP2 HZ2 p2
 go_upto_region 4 with fail
 go_wp2_with (refine listStoreC rfl rfl _ _ _ rfl rfl w.heap.size 0 (2) rfl rfl HP3.out (by simp) ?_)
 intro w4 hr ho hs hB
 have HB4 := aqPmIgs (hB _ _ (Nat.le_refl _) HB3.out)
 have HP4 := aqPmIgs hr
 have HZ4 := aqPmIgs ((ho _ (by omega)).trans HZ3.out)
 have p4 := box8_cells HP4.out
 clear hr ho hs hB HB3 HP3 HZ3 p3
 go_wp2_with (refine listStoreR rfl rfl _ _ _ rfl rfl w.heap.size (1) (50) (0) rfl rfl HP4.out ?_)
 intro w5 hr ho hs hB
 have HB5 := aqPmIgs (hB _ _ (Nat.le_refl _) HB4.out)
 have HP5 := aqPmIgs hr
 have HZ5 := aqPmIgs ((ho _ (by omega)).trans HZ4.out)
 have p5 := box8_cells HP5.out
 clear hr ho hs hB HB4 HP4 HZ4 p4
 go_upto_region 5 with fail
 go_wp2_with (refine listStoreP rfl rfl _ _ _ rfl rfl (w.heap.size + 1) (2) (1) (50) (0) (0) (z5) (z6) (z7) rfl rfl HZ5.out ?_)
 intro w99 hr9 ho9 hs9 hB9
 have HF := aqPmIgs (hB9 _ _ (Nat.le_succ _) HB5.out)
 obtain ⟨⟨q0, q1, q2, q3, q4, q5, q6, q7⟩, _⟩ := box8_cells hr9
 clear ho9 hs9 hB9 hr9
 go_wp2
 refine bodyPost_ret (v := PV 2 1 50 0 0 z5 z6 z7) (by simp only [results, Tryz.results135]; simp [go_sem, q0, q1, q2, q3, q4, q5, q6, q7]) rfl ⟨rfl, HF.out⟩
end Go.Proofs.YtfhhnelffldggaaGreatDoor
