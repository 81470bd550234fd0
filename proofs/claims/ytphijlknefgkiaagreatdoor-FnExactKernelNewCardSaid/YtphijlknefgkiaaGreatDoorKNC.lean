/-
  The program's KernelNew.
-/
import Derived.Test.YtphijlknefgkiaaGreatDoorKNB
import Derived.Test.YtphijlknefgkiaaGreatDoorSetI11
namespace Go.Proofs.YtphijlknefgkiaaGreatDoor
open Go.ChangeShapes Go.WideShapes Go.ChangeAt Go.RowKit Go.PlainAid
set_option linter.unusedVariables false
set_option linter.unusedSimpArgs false

theorem row_own {w : World} {lo g m z : Nat} {T : TypeId} {xs : List Value} (h : w.heap[g]? = some (.cells xs.toArray T)) (hl : lo ≤ g) (hn : xs.length = m * z) (hm : m ≤ 1048576) : w.ownsRow lo T z (.slice (some ⟨g, 0, none⟩) m m) m xs :=
  ⟨hn, Or.inr ⟨g, m, xs.toArray, rfl, hl, h, Nat.le_refl _, by unfold maxLen; omega, by simp [hn], by simp [← hn]⟩⟩
theorem rwx_own {w : World} {lo : Nat} {s : SH} {X : SX} (h : RwX w lo s X) (hm : X.R.length ≤ 1048576 ∧ X.W.length ≤ 1048576 ∧ X.O.length ≤ 1048576 ∧ X.U.length ≤ 1048576 ∧ X.S.length ≤ 1048576) : OwnX w lo s X := by
  obtain ⟨g0, g1, g2, g3, g4, rfl, ⟨l0, l1, l2, l3, l4⟩, r0, r1, r2, r3, r4⟩ := h.ex
  exact ⟨row_own r0 l0 (R.regsV_len _) hm.1, row_own r1 l1 (regsV_len _) hm.2.1, row_own r2 l2 (prtV_len _) hm.2.2.1, row_own r3 l3 (rulV_len _) hm.2.2.2.1, row_own r4 l4 ((S.strV_len _).trans (Nat.mul_one _).symm) hm.2.2.2.2⟩
structure SI (B : Nat) (X : SX) (n0 n2 : Nat) (x y z d1 d2 : Bool) (t12 t13 t17 t21 t22 : Value) (w : World) : Prop where
  s : d1 = true → ∃ s', t12 = SetV s' ∧ OwnX w B s' X
  a : d2 = true → ∃ g, t13 = .agg #[.slice (some ⟨g, 0, none⟩) 64 64] ∧ RowAt w g z64k ∧ B ≤ g
  p : x = true → ∃ g, t17 = .slice (some ⟨g, 0, none⟩) n0 n0 ∧ w.heap[g]? = some (.cells (parV (List.replicate n0 zeroP)).toArray 123) ∧ B ≤ g
  l : y = true → ∃ g, t21 = .slice (some ⟨g, 0, none⟩) n2 n2 ∧ w.heap[g]? = some (.cells (Array.replicate n2 (Value.slice none 0 0)) 127) ∧ B ≤ g
  o : z = true → ∃ g, t22 = .slice (some ⟨g, 0, none⟩) 8 8 ∧ RowAt w g z8k ∧ B ≤ g
  ne : z = true → d2 = true → ∀ gA gO, t13 = .agg #[.slice (some ⟨gA, 0, none⟩) 64 64] → t22 = .slice (some ⟨gO, 0, none⟩) 8 8 → gA ≠ gO
theorem SI.on {B : Nat} {X : SX} {n0 n2 : Nat} {x y z d1 d2 : Bool} {t12 t13 t17 t21 t22 : Value} {w w' : World} (h : SI B X n0 n2 x y z d1 d2 t12 t13 t17 t21 t22 w) (hb : Below w.heap.size w w') : SI B X n0 n2 x y z d1 d2 t12 t13 t17 t21 t22 w' :=
  ⟨fun e => by obtain ⟨s', e1, e2⟩ := h.s e; exact ⟨s', e1, e2.bel hb⟩, fun e => by obtain ⟨g, e1, e2, e3⟩ := h.a e; exact ⟨g, e1, row_on e2 hb, e3⟩, fun e => by obtain ⟨g, e1, e2, e3⟩ := h.p e; exact ⟨g, e1, row_on e2 hb, e3⟩, fun e => by obtain ⟨g, e1, e2, e3⟩ := h.l e; exact ⟨g, e1, row_on e2 hb, e3⟩, fun e => by obtain ⟨g, e1, e2, e3⟩ := h.o e; exact ⟨g, e1, row_on e2 hb, e3⟩, h.ne⟩
set_option maxRecDepth 100000 in
set_option maxHeartbeats 4000000 in
theorem kernelI (s : SH) (X : SX) (lo : Nat) (f : Int) (hf : FaultX X f) (w : World) (h : RwX w lo s X) (hs : SmX s X) (hwf : WfU X.U) (hg : Hnd w) :
    Calls Tryz.prog 7 #[SetV s] w fun e w' => ∃ k K, e = .returned (.tuple #[KerV k K, .int .i64 f]) ∧ ((f = 0 ∧ K = bornK X ∧ ∃ s' gA gP gL gO, k = bornH s' X gA gP gL gO ∧ Born w' w.heap.size s' X gA gP gL gO ∧ gA ≠ gO) ∨ (f ≠ 0 ∧ K = noneK ∧ k = noneH)) ∧ Below w.heap.size w w' := by
  have HG : Hid (Hnd w) := hg
  clear hg
  obtain ⟨g0, g1, g2, g3, g4, rfl, _, r0, r1, r2, r3, r4⟩ := h.ex
  have hs' := hs
  obtain ⟨k0, k1, k2, k3, k4, kb⟩ := hs'
  dsimp only at k0 k1 k2 k3 k4
  obtain ⟨n0, hn0⟩ : ∃ n, X.R.length = n := ⟨_, rfl⟩
  rw [hn0] at k0
  obtain ⟨n1, hn1⟩ : ∃ n, X.W.length = n := ⟨_, rfl⟩
  rw [hn1] at k1
  obtain ⟨n2, hn2⟩ : ∃ n, X.O.length = n := ⟨_, rfl⟩
  rw [hn2] at k2
  obtain ⟨n3, hn3⟩ : ∃ n, X.U.length = n := ⟨_, rfl⟩
  rw [hn3] at k3
  obtain ⟨n4, hn4⟩ : ∃ n, X.S.length = n := ⟨_, rfl⟩
  rw [hn4] at k4
  have HN : Hid (X.R.length = n0 ∧ X.W.length = n1 ∧ X.O.length = n2 ∧ X.U.length = n3 ∧ X.S.length = n4) := ⟨hn0, hn1, hn2, hn3, hn4⟩
  rw [hn0, hn1, hn2, hn3, hn4] at h hs ⊢
  have HX : Hid (RwX w lo ⟨some ⟨g0, 0, none⟩, n0, n0, some ⟨g1, 0, none⟩, n1, n1, some ⟨g2, 0, none⟩, n2, n2, some ⟨g3, 0, none⟩, n3, n3, some ⟨g4, 0, none⟩, n4, n4⟩ X) := h
  have HS : Hid (SmX ⟨some ⟨g0, 0, none⟩, n0, n0, some ⟨g1, 0, none⟩, n1, n1, some ⟨g2, 0, none⟩, n2, n2, some ⟨g3, 0, none⟩, n3, n3, some ⟨g4, 0, none⟩, n4, n4⟩ X) := hs
  have HF : Hid (FaultX X f) := hf
  have HWF : Hid (WfU X.U) := hwf
  have HB0 : Hid (Below w.heap.size w ((w.alloc (.cells #[.slice (some ⟨g0, 0, none⟩) n0 n0, .slice (some ⟨g1, 0, none⟩) n1 n1, .slice (some ⟨g2, 0, none⟩) n2 n2, .slice (some ⟨g3, 0, none⟩) n3 n3, .slice (some ⟨g4, 0, none⟩) n4 n4] 35)).alloc (.cells #[.slice none 0 0, .slice none 0 0, .slice none 0 0, .slice none 0 0, .slice none 0 0, .slice none 0 0, .slice none 0 0, .slice none 0 0, .slice none 0 0, .int .i64 0, .bool false, .slice none 0 0] 43))) := ((Below.refl _ _).alloc (Nat.le_refl _) _).alloc (by simp) _
  have HI0 : Hid (((w.alloc (.cells #[.slice (some ⟨g0, 0, none⟩) n0 n0, .slice (some ⟨g1, 0, none⟩) n1 n1, .slice (some ⟨g2, 0, none⟩) n2 n2, .slice (some ⟨g3, 0, none⟩) n3 n3, .slice (some ⟨g4, 0, none⟩) n4 n4] 35)).alloc (.cells #[.slice none 0 0, .slice none 0 0, .slice none 0 0, .slice none 0 0, .slice none 0 0, .slice none 0 0, .slice none 0 0, .slice none 0 0, .slice none 0 0, .int .i64 0, .bool false, .slice none 0 0] 43)).heap[w.heap.size]? = some (.cells #[.slice (some ⟨g0, 0, none⟩) n0 n0, .slice (some ⟨g1, 0, none⟩) n1 n1, .slice (some ⟨g2, 0, none⟩) n2 n2, .slice (some ⟨g3, 0, none⟩) n3 n3, .slice (some ⟨g4, 0, none⟩) n4 n4] 35)) := row_on (heap_new w _) ((Below.refl _ _).alloc (Nat.le_refl _) _)
  have HZ0 : Hid (((w.alloc (.cells #[.slice (some ⟨g0, 0, none⟩) n0 n0, .slice (some ⟨g1, 0, none⟩) n1 n1, .slice (some ⟨g2, 0, none⟩) n2 n2, .slice (some ⟨g3, 0, none⟩) n3 n3, .slice (some ⟨g4, 0, none⟩) n4 n4] 35)).alloc (.cells #[.slice none 0 0, .slice none 0 0, .slice none 0 0, .slice none 0 0, .slice none 0 0, .slice none 0 0, .slice none 0 0, .slice none 0 0, .slice none 0 0, .int .i64 0, .bool false, .slice none 0 0] 43)).heap[w.heap.size + 1]? = some (.cells #[.slice none 0 0, .slice none 0 0, .slice none 0 0, .slice none 0 0, .slice none 0 0, .slice none 0 0, .slice none 0 0, .slice none 0 0, .slice none 0 0, .int .i64 0, .bool false, .slice none 0 0] 43)) := by
    have h1 := heap_new (w.alloc (.cells #[.slice (some ⟨g0, 0, none⟩) n0 n0, .slice (some ⟨g1, 0, none⟩) n1 n1, .slice (some ⟨g2, 0, none⟩) n2 n2, .slice (some ⟨g3, 0, none⟩) n3 n3, .slice (some ⟨g4, 0, none⟩) n4 n4] 35)) (.cells #[.slice none 0 0, .slice none 0 0, .slice none 0 0, .slice none 0 0, .slice none 0 0, .slice none 0 0, .slice none 0 0, .slice none 0 0, .slice none 0 0, .int .i64 0, .bool false, .slice none 0 0] 43)
    rw [show (w.alloc (.cells #[.slice (some ⟨g0, 0, none⟩) n0 n0, .slice (some ⟨g1, 0, none⟩) n1 n1, .slice (some ⟨g2, 0, none⟩) n2 n2, .slice (some ⟨g3, 0, none⟩) n3 n3, .slice (some ⟨g4, 0, none⟩) n4 n4] 35)).heap.size = w.heap.size + 1 from by simp] at h1
    exact h1
  clear h hs hf hwf r0 r1 r2 r3 r4 hn0 hn1 hn2 hn3 hn4 kb
  have ki := boxO_cells HI0.out
  unfold SetV
  dsimp only
  go_enter Tryz.func7, Tryz.ntmps7
  go_wp2_with fail
  refine (faultI ⟨some ⟨g0, 0, none⟩, n0, n0, some ⟨g1, 0, none⟩, n1, n1, some ⟨g2, 0, none⟩, n2, n2, some ⟨g3, 0, none⟩, n3, n3, some ⟨g4, 0, none⟩, n4, n4⟩ X f HF.out _ ((HX.out.rd).on HB0.out) HS.out HWF.out (Nat.le_refl _) (HG.out.on HB0.out)).mono ?_
  rintro e w1 ⟨rfl, hb1⟩
  have HI1 : Hid (w1.heap[w.heap.size]? = some (.cells #[.slice (some ⟨g0, 0, none⟩) n0 n0, .slice (some ⟨g1, 0, none⟩) n1 n1, .slice (some ⟨g2, 0, none⟩) n2 n2, .slice (some ⟨g3, 0, none⟩) n3 n3, .slice (some ⟨g4, 0, none⟩) n4 n4] 35)) := row_on HI0.out hb1
  have HZ1 : Hid (w1.heap[w.heap.size + 1]? = some (.cells #[.slice none 0 0, .slice none 0 0, .slice none 0 0, .slice none 0 0, .slice none 0 0, .slice none 0 0, .slice none 0 0, .slice none 0 0, .slice none 0 0, .int .i64 0, .bool false, .slice none 0 0] 43)) := row_on HZ0.out hb1
  have HB1 : Hid (Below w.heap.size w w1) := bel_on (Nat.le_refl _) HB0.out hb1
  clear hb1 HI0 HZ0 HB0 ki
  have ki := boxO_cells HI1.out
  have kz := box12_cells HZ1.out
  by_cases hf0 : f = 0
  · subst hf0
    go_upto_region 4 with fail
    refine wp_region_held_drew (S := fun w' => w'.cell? ⟨w.heap.size, 0, none⟩ = some (.slice (some ⟨g0, 0, none⟩) n0 n0) ∧ w'.cell? ⟨w.heap.size, 1, none⟩ = some (.slice (some ⟨g1, 0, none⟩) n1 n1) ∧ w'.cell? ⟨w.heap.size, 2, none⟩ = some (.slice (some ⟨g2, 0, none⟩) n2 n2) ∧ w'.cell? ⟨w.heap.size, 3, none⟩ = some (.slice (some ⟨g3, 0, none⟩) n3 n3) ∧ w'.cell? ⟨w.heap.size, 4, none⟩ = some (.slice (some ⟨g4, 0, none⟩) n4 n4) ∧ Below w.heap.size w w') (by kernel_rfl) ⟨ki.1.1, ki.1.2.1, ki.1.2.2.1, ki.1.2.2.2.1, ki.1.2.2.2.2, HB1.out.drew⟩ (fun hHeld => ?_)
    refine wpAnyH_take (i := 0) (v := ?_) rfl (by kernel_rfl) (by kernel_rfl) (by kernel_rfl) (fun _ _ _ h => h) (Or.inl ⟨by rfl, ?_⟩) (by assumption) ?_
    rotate_left
    · intro w_ hSw; (try obtain ⟨z0_, z1_, z2_, z3_, z4_, z5_⟩ := hSw); go_simp <;> with_reducible rfl
    try simp only [Act.put, List.setIfInBounds_toArray, List.set_cons_zero, List.set_cons_succ, List.getElem_toArray, List.getElem_cons_zero, List.getElem_cons_succ]
    refine wpAnyH_take (i := 3) (v := ?_) rfl (by kernel_rfl) (by kernel_rfl) (by kernel_rfl) (fun _ _ _ h => h) (Or.inl ⟨by rfl, ?_⟩) (by assumption) ?_
    rotate_left
    · intro w_ hSw; (try obtain ⟨z0_, z1_, z2_, z3_, z4_, z5_⟩ := hSw); go_simp <;> with_reducible rfl
    try simp only [Act.put, List.setIfInBounds_toArray, List.set_cons_zero, List.set_cons_succ, List.getElem_toArray, List.getElem_cons_zero, List.getElem_cons_succ]
    refine wpAnyH_take (i := 4) (v := ?_) rfl (by kernel_rfl) (by kernel_rfl) (by kernel_rfl) (fun _ _ _ h => h) (Or.inl ⟨by rfl, ?_⟩) (by assumption) ?_
    rotate_left
    · intro w_ hSw; (try obtain ⟨z0_, z1_, z2_, z3_, z4_, z5_⟩ := hSw); go_simp <;> with_reducible rfl
    try simp only [Act.put, List.setIfInBounds_toArray, List.set_cons_zero, List.set_cons_succ, List.getElem_toArray, List.getElem_cons_zero, List.getElem_cons_succ]
    refine wpAnyH_take (i := 5) (v := ?_) rfl (by kernel_rfl) (by kernel_rfl) (by kernel_rfl) (fun _ _ _ h => h) (Or.inl ⟨by rfl, ?_⟩) (by assumption) ?_
    rotate_left
    · intro w_ hSw; (try obtain ⟨z0_, z1_, z2_, z3_, z4_, z5_⟩ := hSw); go_simp <;> with_reducible rfl
    try simp only [Act.put, List.setIfInBounds_toArray, List.set_cons_zero, List.set_cons_succ, List.getElem_toArray, List.getElem_cons_zero, List.getElem_cons_succ]
    refine wpAnyH_take (i := 7) (v := ?_) rfl (by kernel_rfl) (by kernel_rfl) (by kernel_rfl) (fun _ _ _ h => h) (Or.inl ⟨by rfl, ?_⟩) (by assumption) ?_
    rotate_left
    · intro w_ hSw; (try obtain ⟨z0_, z1_, z2_, z3_, z4_, z5_⟩ := hSw); go_simp <;> with_reducible rfl
    try simp only [Act.put, List.setIfInBounds_toArray, List.set_cons_zero, List.set_cons_succ, List.getElem_toArray, List.getElem_cons_zero, List.getElem_cons_succ]
    refine wpAnyH_take (i := 8) (v := ?_) rfl (by kernel_rfl) (by kernel_rfl) (by kernel_rfl) (fun _ _ _ h => h) (Or.inl ⟨by rfl, ?_⟩) (by assumption) ?_
    rotate_left
    · intro w_ hSw; (try obtain ⟨z0_, z1_, z2_, z3_, z4_, z5_⟩ := hSw); go_simp <;> with_reducible rfl
    try simp only [Act.put, List.setIfInBounds_toArray, List.set_cons_zero, List.set_cons_succ, List.getElem_toArray, List.getElem_cons_zero, List.getElem_cons_succ]
    refine wpAnyH_take (i := 9) (v := ?_) rfl (by kernel_rfl) (by kernel_rfl) (by kernel_rfl) (fun _ _ _ h => h) (Or.inl ⟨by rfl, ?_⟩) (by assumption) ?_
    rotate_left
    · intro w_ hSw; (try obtain ⟨z0_, z1_, z2_, z3_, z4_, z5_⟩ := hSw); go_simp <;> with_reducible rfl
    try simp only [Act.put, List.setIfInBounds_toArray, List.set_cons_zero, List.set_cons_succ, List.getElem_toArray, List.getElem_cons_zero, List.getElem_cons_succ]
    refine any_states (σ := Bool × Bool × Bool × Fin 3) (fun s => #[true, decide (0 < s.2.2.2), decide (1 < s.2.2.2), true, true, true, s.1, true, true, true, s.2.1, s.2.2.1, false, false, false]) (fun s => (if s.2.2.2 = 0 then [1] else []) ++ (if s.2.2.2 = 1 then [2] else []) ++ (if s.1 = true then [] else [6]) ++ (if s.2.1 = true then [] else [10]) ++ (if s.2.2.1 = true then [] else [11])) (fun s => 3 + (if s.1 then 0 else 1) + (if s.2.1 then 0 else 1) + (if s.2.2.1 then 0 else 1) + (2 - s.2.2.2.val)) (fun s => true) (fun s => decide (s.2.2.2 = 2) && s.1 && s.2.1 && s.2.2.1) (fun s a w_ => ∃ t12 t13 t17 t21 t22 : Value, a = ⟨#[.agg #[.slice (some ⟨g0, 0, none⟩) n0 n0, .slice (some ⟨g1, 0, none⟩) n1 n1, .slice (some ⟨g2, 0, none⟩) n2 n2, .slice (some ⟨g3, 0, none⟩) n3 n3, .slice (some ⟨g4, 0, none⟩) n4 n4], .pointer (some ⟨w.heap.size, 0, none⟩), .pointer (some ⟨w.heap.size + 1, 0, none⟩), .int .i64 0, .int .i64 0, .agg #[.slice (some ⟨g0, 0, none⟩) n0 n0, .slice (some ⟨g1, 0, none⟩) n1 n1, .slice (some ⟨g2, 0, none⟩) n2 n2, .slice (some ⟨g3, 0, none⟩) n3 n3, .slice (some ⟨g4, 0, none⟩) n4 n4], .int .i64 0, .int .i64 0, .bool false, undef, undef, .agg #[.slice (some ⟨g0, 0, none⟩) n0 n0, .slice (some ⟨g1, 0, none⟩) n1 n1, .slice (some ⟨g2, 0, none⟩) n2 n2, .slice (some ⟨g3, 0, none⟩) n3 n3, .slice (some ⟨g4, 0, none⟩) n4 n4], t12, t13, .pointer (some ⟨w.heap.size, 0, none⟩), .slice (some ⟨g0, 0, none⟩) n0 n0, .int .i64 (n0 : Int), t17, .pointer (some ⟨w.heap.size, 2, none⟩), .slice (some ⟨g2, 0, none⟩) n2 n2, .int .i64 (n2 : Int), t21, t22, undef], []⟩ ∧ Below w1.heap.size w1 w_ ∧ SI w1.heap.size X n0 n2 s.1 s.2.1 s.2.2.1 (decide (0 < s.2.2.2)) (decide (1 < s.2.2.2)) t12 t13 t17 t21 t22 w_) ?_ ?_ ?_ 8 (false, false, false, 0) _ _ _ (by decide) (by decide) (by decide) hHeld ⟨undef, undef, undef, undef, undef, rfl, (Below.refl _ _).drew, ⟨fun h => (by cases h), fun h => (by cases h), fun h => (by cases h), fun h => (by cases h), fun h => (by cases h), fun h => (by cases h)⟩⟩
    · rintro ⟨x, y, z, c⟩
      dsimp only
      revert x y z c
      decide +kernel
    · rintro ⟨x, y, z, c⟩ i hok hfin hi
      dsimp only at hok hfin hi
      simp only [List.mem_append, mem_ifn, mem_ifc] at hi
      rcases hi with (((hi | hi) | hi) | hi) | hi
      · obtain ⟨rfl, rfl⟩ := hi
        refine ⟨(x, y, z, 1), rfl, rfl, ?_, ?_⟩
        · clear hfin hok; revert x y z; decide +kernel
        rintro a w_ hSw ⟨t12, t13, t17, t21, t22, rfl, hb, hn⟩
        dsimp only at hn ⊢
        refine wpOp_step (i := 1) rfl (fun K hK => ?_)
        have HK : Shut _ := hK
        clear hK
        go_simp
        go_at_call 27
        refine (cpSet ⟨some ⟨g0, 0, none⟩, n0, n0, some ⟨g1, 0, none⟩, n1, n1, some ⟨g2, 0, none⟩, n2, n2, some ⟨g3, 0, none⟩, n3, n3, some ⟨g4, 0, none⟩, n4, n4⟩ X lo w_ (rwx_on (rwx_on HX.out HB1.out) hb) HS.out).mono ?_
        rintro e w2 ⟨s', rfl, ho, hb2⟩
        go_wp2_with fail
        exact HK.out _ _ ⟨⟨cell_on hSw.1 hb2, cell_on hSw.2.1 hb2, cell_on hSw.2.2.1 hb2, cell_on hSw.2.2.2.1 hb2, cell_on hSw.2.2.2.2.1 hb2, bel_on (Nat.le_refl _) hSw.2.2.2.2.2 hb2⟩, _, t13, t17, t21, t22, rfl, bel_on (Nat.le_refl _) hb hb2, ⟨fun _ => ⟨s', rfl, rwx_own (ho.less hb.size) ⟨by rw [HN.out.1]; exact k0, by rw [HN.out.2.1]; exact k1, by rw [HN.out.2.2.1]; exact k2, by rw [HN.out.2.2.2.1]; exact k3, by rw [HN.out.2.2.2.2]; exact k4⟩⟩, fun h => absurd h (by simp), (hn.on hb2).p, (hn.on hb2).l, (hn.on hb2).o, fun _ h => absurd h (by simp)⟩⟩
      · obtain ⟨rfl, rfl⟩ := hi
        refine ⟨(x, y, z, 2), rfl, rfl, ?_, ?_⟩
        · clear hfin hok; revert x y z; decide +kernel
        rintro a w_ hSw ⟨t12, t13, t17, t21, t22, rfl, hb, hn⟩
        dsimp only at hn ⊢
        refine wpOp_step (i := 2) rfl (fun K hK => ?_)
        have HK : Shut _ := hK
        clear hK
        go_simp
        go_at_call 28
        refine (arI w_).mono ?_
        rintro e w2 ⟨g, rfl, hge, hr2, hb2⟩
        go_wp2_with fail
        exact HK.out _ _ ⟨⟨cell_on hSw.1 hb2, cell_on hSw.2.1 hb2, cell_on hSw.2.2.1 hb2, cell_on hSw.2.2.2.1 hb2, cell_on hSw.2.2.2.2.1 hb2, bel_on (Nat.le_refl _) hSw.2.2.2.2.2 hb2⟩, t12, _, t17, t21, t22, rfl, bel_on (Nat.le_refl _) hb hb2, ⟨fun _ => (hn.on hb2).s (by simp), fun _ => ⟨g, rfl, hr2, Nat.le_trans hb.size hge⟩, (hn.on hb2).p, (hn.on hb2).l, (hn.on hb2).o, fun hz _ gA gO e1 e2 => by cases e1; obtain ⟨gO', e3, e4, _⟩ := hn.o hz; cases e3.symm.trans e2; have := row_lt e4; omega⟩⟩
      · obtain ⟨rfl, rfl⟩ := hi
        refine ⟨(true, y, z, c), rfl, rfl, ?_, ?_⟩
        · clear hfin hok; revert y z c; decide +kernel
        rintro a w_ hSw ⟨t12, t13, t17, t21, t22, rfl, hb, hn⟩
        dsimp only at hn ⊢
        refine wpOp_step (i := 6) rfl (fun K hK => ?_)
        have HK : Shut _ := hK
        clear hK
        have hmk := makeQ n0 k0
        go_simp
        exact HK.out _ _ ⟨⟨cell_on hSw.1 (al1_k w_ _), cell_on hSw.2.1 (al1_k w_ _), cell_on hSw.2.2.1 (al1_k w_ _), cell_on hSw.2.2.2.1 (al1_k w_ _), cell_on hSw.2.2.2.2.1 (al1_k w_ _), bel_on (Nat.le_refl _) hSw.2.2.2.2.2 (al1_k w_ _)⟩, t12, t13, _, t21, t22, rfl, bel_on (Nat.le_refl _) hb (al1_k w_ _), ⟨(hn.on (al1_k w_ _)).s, (hn.on (al1_k w_ _)).a, fun _ => ⟨w_.heap.size, rfl, heap_new w_ _, hb.size⟩, (hn.on (al1_k w_ _)).l, (hn.on (al1_k w_ _)).o, hn.ne⟩⟩
      · obtain ⟨rfl, rfl⟩ := hi
        refine ⟨(x, true, z, c), rfl, rfl, ?_, ?_⟩
        · clear hfin hok; revert x z c; decide +kernel
        rintro a w_ hSw ⟨t12, t13, t17, t21, t22, rfl, hb, hn⟩
        dsimp only at hn ⊢
        refine wpOp_step (i := 10) rfl (fun K hK => ?_)
        have HK : Shut _ := hK
        clear hK
        have hmk := makeV n2 k2
        go_simp
        exact HK.out _ _ ⟨⟨cell_on hSw.1 (al1_k w_ _), cell_on hSw.2.1 (al1_k w_ _), cell_on hSw.2.2.1 (al1_k w_ _), cell_on hSw.2.2.2.1 (al1_k w_ _), cell_on hSw.2.2.2.2.1 (al1_k w_ _), bel_on (Nat.le_refl _) hSw.2.2.2.2.2 (al1_k w_ _)⟩, t12, t13, t17, _, t22, rfl, bel_on (Nat.le_refl _) hb (al1_k w_ _), ⟨(hn.on (al1_k w_ _)).s, (hn.on (al1_k w_ _)).a, (hn.on (al1_k w_ _)).p, fun _ => ⟨w_.heap.size, rfl, heap_new w_ _, hb.size⟩, (hn.on (al1_k w_ _)).o, hn.ne⟩⟩
      · obtain ⟨rfl, rfl⟩ := hi
        refine ⟨(x, y, true, c), rfl, rfl, ?_, ?_⟩
        · clear hfin hok; revert x y c; decide +kernel
        rintro a w_ hSw ⟨t12, t13, t17, t21, t22, rfl, hb, hn⟩
        dsimp only at hn ⊢
        refine wpOp_step (i := 11) rfl (fun K hK => ?_)
        have HK : Shut _ := hK
        clear hK
        have hmk := mk8
        go_simp
        exact HK.out _ _ ⟨⟨cell_on hSw.1 (al1_k w_ _), cell_on hSw.2.1 (al1_k w_ _), cell_on hSw.2.2.1 (al1_k w_ _), cell_on hSw.2.2.2.1 (al1_k w_ _), cell_on hSw.2.2.2.2.1 (al1_k w_ _), bel_on (Nat.le_refl _) hSw.2.2.2.2.2 (al1_k w_ _)⟩, t12, t13, t17, t21, _, rfl, bel_on (Nat.le_refl _) hb (al1_k w_ _), ⟨(hn.on (al1_k w_ _)).s, (hn.on (al1_k w_ _)).a, (hn.on (al1_k w_ _)).p, (hn.on (al1_k w_ _)).l, fun _ => ⟨w_.heap.size, rfl, heap_new w_ _, hb.size⟩, fun _ hd gA gO e1 e2 => by cases e2; obtain ⟨gA', e3, e4, _⟩ := hn.a hd; cases e3.symm.trans e1; have := row_lt e4; omega⟩⟩
    · rintro ⟨x, y, z, c⟩ a w_ f2 hok hfin hf hSw ⟨t12, t13, t17, t21, t22, rfl, hb, hn⟩
      dsimp only at hok hfin hf hn ⊢
      obtain ⟨⟨⟨rfl, rfl⟩, rfl⟩, rfl⟩ : ((c = 2 ∧ x = true) ∧ y = true) ∧ z = true := by simpa using hfin
      obtain ⟨f3, rfl⟩ : ∃ f3, f2 = f3 + 3 := ⟨f2 - 3, by simp at hf; omega⟩
      obtain ⟨s', rfl, hx⟩ := hn.s (by first | rfl | simp)
      obtain ⟨gA, rfl, ha, hla⟩ := hn.a (by first | rfl | simp)
      obtain ⟨gP, rfl, hp, hlp⟩ := hn.p rfl
      obtain ⟨gL, rfl, hll, hlL⟩ := hn.l rfl
      obtain ⟨gO, rfl, ho, hlo⟩ := hn.o rfl
      have hne := hn.ne rfl (by first | rfl | simp) gA gO rfl rfl
      have hw1 := row_lt HZ1.out
      have hzr := row_on HZ1.out hb
      have kk := box12_cells hzr
      unfold SetV
      refine wpAnyH_ready (rs := [12]) (by kernel_rfl) (by simp) ?_
      refine AllReadyH.cons rfl (fun K hK => ?_) AllReadyH.nil
      go_simp
      refine hK.out _ _ hSw (fun hHeld2 => ?_)
      clear hK K hHeld2
      refine wpAnyH_ready (rs := [13]) (by kernel_rfl) (by simp) ?_
      refine AllReadyH.cons rfl (fun K hK => ?_) AllReadyH.nil
      go_simp
      have HQ : Hid (((((((((((((w_.setCell ⟨w.heap.size + 1, 0, none⟩ (.slice s'.q0 s'.n0 s'.c0)).setCell ⟨w.heap.size + 1, 1, none⟩ (.slice s'.q1 s'.n1 s'.c1)).setCell ⟨w.heap.size + 1, 2, none⟩ (.slice s'.q2 s'.n2 s'.c2)).setCell ⟨w.heap.size + 1, 3, none⟩ (.slice s'.q3 s'.n3 s'.c3)).setCell ⟨w.heap.size + 1, 4, none⟩ (.slice s'.q4 s'.n4 s'.c4)).setCell ⟨w.heap.size + 1, 5, none⟩ (.slice (some ⟨gA, 0, none⟩) 64 64)).setCell ⟨w.heap.size + 1, 6, none⟩ (.slice (some ⟨gP, 0, none⟩) n0 n0)).setCell ⟨w.heap.size + 1, 7, none⟩ (.slice (some ⟨gL, 0, none⟩) n2 n2)).setCell ⟨w.heap.size + 1, 8, none⟩ (.slice (some ⟨gO, 0, none⟩) 8 8)).setCell ⟨w.heap.size + 1, 9, none⟩ (.int .i64 0)).setCell ⟨w.heap.size + 1, 10, none⟩ (.bool false)).setCell ⟨w.heap.size + 1, 11, none⟩ (.slice none 0 0)).heap[w.heap.size + 1]? = some (.cells #[.slice s'.q0 s'.n0 s'.c0, .slice s'.q1 s'.n1 s'.c1, .slice s'.q2 s'.n2 s'.c2, .slice s'.q3 s'.n3 s'.c3, .slice s'.q4 s'.n4 s'.c4, .slice (some ⟨gA, 0, none⟩) 64 64, .slice (some ⟨gP, 0, none⟩) n0 n0, .slice (some ⟨gL, 0, none⟩) n2 n2, .slice (some ⟨gO, 0, none⟩) 8 8, .int .i64 0, .bool false, .slice none 0 0] 43)) := set12_row hzr (.slice s'.q0 s'.n0 s'.c0) (.slice s'.q1 s'.n1 s'.c1) (.slice s'.q2 s'.n2 s'.c2) (.slice s'.q3 s'.n3 s'.c3) (.slice s'.q4 s'.n4 s'.c4) (.slice (some ⟨gA, 0, none⟩) 64 64) (.slice (some ⟨gP, 0, none⟩) n0 n0) (.slice (some ⟨gL, 0, none⟩) n2 n2) (.slice (some ⟨gO, 0, none⟩) 8 8) (.int .i64 0) (.bool false) (.slice none 0 0)
      have HIF : Hid (((((((((((((w_.setCell ⟨w.heap.size + 1, 0, none⟩ (.slice s'.q0 s'.n0 s'.c0)).setCell ⟨w.heap.size + 1, 1, none⟩ (.slice s'.q1 s'.n1 s'.c1)).setCell ⟨w.heap.size + 1, 2, none⟩ (.slice s'.q2 s'.n2 s'.c2)).setCell ⟨w.heap.size + 1, 3, none⟩ (.slice s'.q3 s'.n3 s'.c3)).setCell ⟨w.heap.size + 1, 4, none⟩ (.slice s'.q4 s'.n4 s'.c4)).setCell ⟨w.heap.size + 1, 5, none⟩ (.slice (some ⟨gA, 0, none⟩) 64 64)).setCell ⟨w.heap.size + 1, 6, none⟩ (.slice (some ⟨gP, 0, none⟩) n0 n0)).setCell ⟨w.heap.size + 1, 7, none⟩ (.slice (some ⟨gL, 0, none⟩) n2 n2)).setCell ⟨w.heap.size + 1, 8, none⟩ (.slice (some ⟨gO, 0, none⟩) 8 8)).setCell ⟨w.heap.size + 1, 9, none⟩ (.int .i64 0)).setCell ⟨w.heap.size + 1, 10, none⟩ (.bool false)).setCell ⟨w.heap.size + 1, 11, none⟩ (.slice none 0 0)).heap[w.heap.size]? = some (.cells #[.slice (some ⟨g0, 0, none⟩) n0 n0, .slice (some ⟨g1, 0, none⟩) n1 n1, .slice (some ⟨g2, 0, none⟩) n2 n2, .slice (some ⟨g3, 0, none⟩) n3 n3, .slice (some ⟨g4, 0, none⟩) n4 n4] 35)) := set12_far (row_on HI1.out hb) (by omega) (.slice s'.q0 s'.n0 s'.c0) (.slice s'.q1 s'.n1 s'.c1) (.slice s'.q2 s'.n2 s'.c2) (.slice s'.q3 s'.n3 s'.c3) (.slice s'.q4 s'.n4 s'.c4) (.slice (some ⟨gA, 0, none⟩) 64 64) (.slice (some ⟨gP, 0, none⟩) n0 n0) (.slice (some ⟨gL, 0, none⟩) n2 n2) (.slice (some ⟨gO, 0, none⟩) 8 8) (.int .i64 0) (.bool false) (.slice none 0 0)
      have HBR : Hid (Born ((((((((((((w_.setCell ⟨w.heap.size + 1, 0, none⟩ (.slice s'.q0 s'.n0 s'.c0)).setCell ⟨w.heap.size + 1, 1, none⟩ (.slice s'.q1 s'.n1 s'.c1)).setCell ⟨w.heap.size + 1, 2, none⟩ (.slice s'.q2 s'.n2 s'.c2)).setCell ⟨w.heap.size + 1, 3, none⟩ (.slice s'.q3 s'.n3 s'.c3)).setCell ⟨w.heap.size + 1, 4, none⟩ (.slice s'.q4 s'.n4 s'.c4)).setCell ⟨w.heap.size + 1, 5, none⟩ (.slice (some ⟨gA, 0, none⟩) 64 64)).setCell ⟨w.heap.size + 1, 6, none⟩ (.slice (some ⟨gP, 0, none⟩) n0 n0)).setCell ⟨w.heap.size + 1, 7, none⟩ (.slice (some ⟨gL, 0, none⟩) n2 n2)).setCell ⟨w.heap.size + 1, 8, none⟩ (.slice (some ⟨gO, 0, none⟩) 8 8)).setCell ⟨w.heap.size + 1, 9, none⟩ (.int .i64 0)).setCell ⟨w.heap.size + 1, 10, none⟩ (.bool false)).setCell ⟨w.heap.size + 1, 11, none⟩ (.slice none 0 0)) w.heap.size s' X gA gP gL gO) := ⟨(set12_ownX hx hzr farK (.slice s'.q0 s'.n0 s'.c0) (.slice s'.q1 s'.n1 s'.c1) (.slice s'.q2 s'.n2 s'.c2) (.slice s'.q3 s'.n3 s'.c3) (.slice s'.q4 s'.n4 s'.c4) (.slice (some ⟨gA, 0, none⟩) 64 64) (.slice (some ⟨gP, 0, none⟩) n0 n0) (.slice (some ⟨gL, 0, none⟩) n2 n2) (.slice (some ⟨gO, 0, none⟩) 8 8) (.int .i64 0) (.bool false) (.slice none 0 0)).less (by omega), set12_far ha (by omega) (.slice s'.q0 s'.n0 s'.c0) (.slice s'.q1 s'.n1 s'.c1) (.slice s'.q2 s'.n2 s'.c2) (.slice s'.q3 s'.n3 s'.c3) (.slice s'.q4 s'.n4 s'.c4) (.slice (some ⟨gA, 0, none⟩) 64 64) (.slice (some ⟨gP, 0, none⟩) n0 n0) (.slice (some ⟨gL, 0, none⟩) n2 n2) (.slice (some ⟨gO, 0, none⟩) 8 8) (.int .i64 0) (.bool false) (.slice none 0 0), by rw [HN.out.1]; exact set12_far hp (by omega) (.slice s'.q0 s'.n0 s'.c0) (.slice s'.q1 s'.n1 s'.c1) (.slice s'.q2 s'.n2 s'.c2) (.slice s'.q3 s'.n3 s'.c3) (.slice s'.q4 s'.n4 s'.c4) (.slice (some ⟨gA, 0, none⟩) 64 64) (.slice (some ⟨gP, 0, none⟩) n0 n0) (.slice (some ⟨gL, 0, none⟩) n2 n2) (.slice (some ⟨gO, 0, none⟩) 8 8) (.int .i64 0) (.bool false) (.slice none 0 0), by rw [HN.out.2.2.1]; exact set12_far hll (by omega) (.slice s'.q0 s'.n0 s'.c0) (.slice s'.q1 s'.n1 s'.c1) (.slice s'.q2 s'.n2 s'.c2) (.slice s'.q3 s'.n3 s'.c3) (.slice s'.q4 s'.n4 s'.c4) (.slice (some ⟨gA, 0, none⟩) 64 64) (.slice (some ⟨gP, 0, none⟩) n0 n0) (.slice (some ⟨gL, 0, none⟩) n2 n2) (.slice (some ⟨gO, 0, none⟩) 8 8) (.int .i64 0) (.bool false) (.slice none 0 0), set12_far ho (by omega) (.slice s'.q0 s'.n0 s'.c0) (.slice s'.q1 s'.n1 s'.c1) (.slice s'.q2 s'.n2 s'.c2) (.slice s'.q3 s'.n3 s'.c3) (.slice s'.q4 s'.n4 s'.c4) (.slice (some ⟨gA, 0, none⟩) 64 64) (.slice (some ⟨gP, 0, none⟩) n0 n0) (.slice (some ⟨gL, 0, none⟩) n2 n2) (.slice (some ⟨gO, 0, none⟩) 8 8) (.int .i64 0) (.bool false) (.slice none 0 0), by omega, by omega, by omega, by omega⟩
      have HBD : Hid (Below w.heap.size w ((((((((((((w_.setCell ⟨w.heap.size + 1, 0, none⟩ (.slice s'.q0 s'.n0 s'.c0)).setCell ⟨w.heap.size + 1, 1, none⟩ (.slice s'.q1 s'.n1 s'.c1)).setCell ⟨w.heap.size + 1, 2, none⟩ (.slice s'.q2 s'.n2 s'.c2)).setCell ⟨w.heap.size + 1, 3, none⟩ (.slice s'.q3 s'.n3 s'.c3)).setCell ⟨w.heap.size + 1, 4, none⟩ (.slice s'.q4 s'.n4 s'.c4)).setCell ⟨w.heap.size + 1, 5, none⟩ (.slice (some ⟨gA, 0, none⟩) 64 64)).setCell ⟨w.heap.size + 1, 6, none⟩ (.slice (some ⟨gP, 0, none⟩) n0 n0)).setCell ⟨w.heap.size + 1, 7, none⟩ (.slice (some ⟨gL, 0, none⟩) n2 n2)).setCell ⟨w.heap.size + 1, 8, none⟩ (.slice (some ⟨gO, 0, none⟩) 8 8)).setCell ⟨w.heap.size + 1, 9, none⟩ (.int .i64 0)).setCell ⟨w.heap.size + 1, 10, none⟩ (.bool false)).setCell ⟨w.heap.size + 1, 11, none⟩ (.slice none 0 0))) := set12_bel hSw.2.2.2.2.2 (show w.heap.size ≤ w.heap.size + 1 by omega) (.slice s'.q0 s'.n0 s'.c0) (.slice s'.q1 s'.n1 s'.c1) (.slice s'.q2 s'.n2 s'.c2) (.slice s'.q3 s'.n3 s'.c3) (.slice s'.q4 s'.n4 s'.c4) (.slice (some ⟨gA, 0, none⟩) 64 64) (.slice (some ⟨gP, 0, none⟩) n0 n0) (.slice (some ⟨gL, 0, none⟩) n2 n2) (.slice (some ⟨gO, 0, none⟩) 8 8) (.int .i64 0) (.bool false) (.slice none 0 0)
      obtain ⟨WD, hWD⟩ : ∃ W, W = ((((((((((((w_.setCell ⟨w.heap.size + 1, 0, none⟩ (.slice s'.q0 s'.n0 s'.c0)).setCell ⟨w.heap.size + 1, 1, none⟩ (.slice s'.q1 s'.n1 s'.c1)).setCell ⟨w.heap.size + 1, 2, none⟩ (.slice s'.q2 s'.n2 s'.c2)).setCell ⟨w.heap.size + 1, 3, none⟩ (.slice s'.q3 s'.n3 s'.c3)).setCell ⟨w.heap.size + 1, 4, none⟩ (.slice s'.q4 s'.n4 s'.c4)).setCell ⟨w.heap.size + 1, 5, none⟩ (.slice (some ⟨gA, 0, none⟩) 64 64)).setCell ⟨w.heap.size + 1, 6, none⟩ (.slice (some ⟨gP, 0, none⟩) n0 n0)).setCell ⟨w.heap.size + 1, 7, none⟩ (.slice (some ⟨gL, 0, none⟩) n2 n2)).setCell ⟨w.heap.size + 1, 8, none⟩ (.slice (some ⟨gO, 0, none⟩) 8 8)).setCell ⟨w.heap.size + 1, 9, none⟩ (.int .i64 0)).setCell ⟨w.heap.size + 1, 10, none⟩ (.bool false)).setCell ⟨w.heap.size + 1, 11, none⟩ (.slice none 0 0)) := ⟨_, rfl⟩
      rw [← hWD] at HQ HIF HBR HBD ⊢
      clear hWD
      have kI := boxO_cells HIF.out
      refine hK.out _ _ ⟨kI.1.1, kI.1.2.1, kI.1.2.2.1, kI.1.2.2.2.1, kI.1.2.2.2.2, HBD.out⟩ (fun hHeld2 => ?_)
      clear hK K kk hzr hx ha ho hp hll hn hSw hb ki kz
      refine wpAnyH_ready (rs := [14]) (by kernel_rfl) (by simp) ?_
      refine AllReadyH.cons rfl (fun K hK => ?_) AllReadyH.nil
      go_simp
      refine hK.out _ _ hHeld2 (fun hHeld3 => ?_)
      clear hK K hHeld2 hHeld3
      refine wpAnyH_done (by kernel_rfl) ?_ _
      have kf := box12_cells HQ.out
      go_wp2
      refine bodyPost_ret (v := .tuple #[.agg #[.slice s'.q0 s'.n0 s'.c0, .slice s'.q1 s'.n1 s'.c1, .slice s'.q2 s'.n2 s'.c2, .slice s'.q3 s'.n3 s'.c3, .slice s'.q4 s'.n4 s'.c4, .slice (some ⟨gA, 0, none⟩) 64 64, .slice (some ⟨gP, 0, none⟩) n0 n0, .slice (some ⟨gL, 0, none⟩) n2 n2, .slice (some ⟨gO, 0, none⟩) 8 8, .int .i64 0, .bool false, .slice none 0 0], .int .i64 0]) (by simp [results, Tryz.results7, go_sem, kf]) rfl ⟨bornH s' X gA gP gL gO, bornK X, ?_, (by first | exact .inl ⟨rfl, rfl, s', gA, gP, gL, gO, rfl, HBR.out, hne⟩ | exact ⟨rfl, s', gA, gP, gL, gO, rfl, HBR.out, hne⟩ | exact ⟨s', gA, gP, gL, gO, rfl, HBR.out, hne⟩), HBD.out⟩
      rw [kerV_born s' X gA gP gL gO n0 n2 HN.out.1 HN.out.2.2.1]
  · go_wp2
    have HQ : Hid (((((((((((((w1.setCell ⟨w.heap.size + 1, 0, none⟩ (.slice none 0 0)).setCell ⟨w.heap.size + 1, 1, none⟩ (.slice none 0 0)).setCell ⟨w.heap.size + 1, 2, none⟩ (.slice none 0 0)).setCell ⟨w.heap.size + 1, 3, none⟩ (.slice none 0 0)).setCell ⟨w.heap.size + 1, 4, none⟩ (.slice none 0 0)).setCell ⟨w.heap.size + 1, 5, none⟩ (.slice none 0 0)).setCell ⟨w.heap.size + 1, 6, none⟩ (.slice none 0 0)).setCell ⟨w.heap.size + 1, 7, none⟩ (.slice none 0 0)).setCell ⟨w.heap.size + 1, 8, none⟩ (.slice none 0 0)).setCell ⟨w.heap.size + 1, 9, none⟩ (.int .i64 0)).setCell ⟨w.heap.size + 1, 10, none⟩ (.bool false)).setCell ⟨w.heap.size + 1, 11, none⟩ (.slice none 0 0)).heap[w.heap.size + 1]? = some (.cells #[.slice none 0 0, .slice none 0 0, .slice none 0 0, .slice none 0 0, .slice none 0 0, .slice none 0 0, .slice none 0 0, .slice none 0 0, .slice none 0 0, .int .i64 0, .bool false, .slice none 0 0] 43)) := set12_row HZ1.out (.slice none 0 0) (.slice none 0 0) (.slice none 0 0) (.slice none 0 0) (.slice none 0 0) (.slice none 0 0) (.slice none 0 0) (.slice none 0 0) (.slice none 0 0) (.int .i64 0) (.bool false) (.slice none 0 0)
    have HBD : Hid (Below w.heap.size w ((((((((((((w1.setCell ⟨w.heap.size + 1, 0, none⟩ (.slice none 0 0)).setCell ⟨w.heap.size + 1, 1, none⟩ (.slice none 0 0)).setCell ⟨w.heap.size + 1, 2, none⟩ (.slice none 0 0)).setCell ⟨w.heap.size + 1, 3, none⟩ (.slice none 0 0)).setCell ⟨w.heap.size + 1, 4, none⟩ (.slice none 0 0)).setCell ⟨w.heap.size + 1, 5, none⟩ (.slice none 0 0)).setCell ⟨w.heap.size + 1, 6, none⟩ (.slice none 0 0)).setCell ⟨w.heap.size + 1, 7, none⟩ (.slice none 0 0)).setCell ⟨w.heap.size + 1, 8, none⟩ (.slice none 0 0)).setCell ⟨w.heap.size + 1, 9, none⟩ (.int .i64 0)).setCell ⟨w.heap.size + 1, 10, none⟩ (.bool false)).setCell ⟨w.heap.size + 1, 11, none⟩ (.slice none 0 0))) := set12_bel HB1.out (show w.heap.size ≤ w.heap.size + 1 by omega) (.slice none 0 0) (.slice none 0 0) (.slice none 0 0) (.slice none 0 0) (.slice none 0 0) (.slice none 0 0) (.slice none 0 0) (.slice none 0 0) (.slice none 0 0) (.int .i64 0) (.bool false) (.slice none 0 0)
    obtain ⟨WD, hWD⟩ : ∃ W, W = ((((((((((((w1.setCell ⟨w.heap.size + 1, 0, none⟩ (.slice none 0 0)).setCell ⟨w.heap.size + 1, 1, none⟩ (.slice none 0 0)).setCell ⟨w.heap.size + 1, 2, none⟩ (.slice none 0 0)).setCell ⟨w.heap.size + 1, 3, none⟩ (.slice none 0 0)).setCell ⟨w.heap.size + 1, 4, none⟩ (.slice none 0 0)).setCell ⟨w.heap.size + 1, 5, none⟩ (.slice none 0 0)).setCell ⟨w.heap.size + 1, 6, none⟩ (.slice none 0 0)).setCell ⟨w.heap.size + 1, 7, none⟩ (.slice none 0 0)).setCell ⟨w.heap.size + 1, 8, none⟩ (.slice none 0 0)).setCell ⟨w.heap.size + 1, 9, none⟩ (.int .i64 0)).setCell ⟨w.heap.size + 1, 10, none⟩ (.bool false)).setCell ⟨w.heap.size + 1, 11, none⟩ (.slice none 0 0)) := ⟨_, rfl⟩
    rw [← hWD] at HQ HBD ⊢
    clear hWD ki kz
    have kf := box12_cells HQ.out
    exact bodyPost_ret (v := .tuple #[.agg #[.slice none 0 0, .slice none 0 0, .slice none 0 0, .slice none 0 0, .slice none 0 0, .slice none 0 0, .slice none 0 0, .slice none 0 0, .slice none 0 0, .int .i64 0, .bool false, .slice none 0 0], .int .i64 f]) (by simp [results, Tryz.results7, go_sem, kf]) rfl ⟨noneH, noneK, rfl, (by first | exact .inr ⟨hf0, rfl, rfl⟩ | exact ⟨rfl, rfl⟩), HBD.out⟩
end Go.Proofs.YtphijlknefgkiaaGreatDoor

namespace Go.Proofs.YtphijlknefgkiaaGreatDoor
open Go.ChangeShapes Go.WideShapes Go.ChangeAt Go.RowKit Go.PlainAid
set_option linter.unusedVariables false
set_option linter.unusedSimpArgs false

theorem mkNil (K : Int) (w : World) : Calls Tryz.prog 47 #[.slice none 0 0, .int .i64 K] w fun e w' => e = .returned (.int .i64 K) ∧ w' = w := by
  go_enter Tryz.func47, Tryz.ntmps47
  go_wp2
  go_rounds 1
  go_ret
  exact ⟨rfl, rfl⟩
theorem hdNil (K : Int) (w : World) : Calls Tryz.prog 53 #[.slice none 0 0, .int .i64 K] w fun e w' => e = .returned (.int .i64 K) ∧ w' = w := by
  go_enter Tryz.func53, Tryz.ntmps53
  go_wp2
  go_rounds 1
  go_ret
  exact ⟨rfl, rfl⟩
theorem mkNilE (K : Int) (w : World) : Calls Tryz.prog 48 #[.slice none 0 0, .int .i64 K] w fun e w' => e = .returned (.int .i64 K) ∧ w' = w := by
  go_enter Tryz.func48, Tryz.ntmps48
  go_wp2
  go_rounds 1
  go_ret
  exact ⟨rfl, rfl⟩
theorem hdNilE (K : Int) (w : World) : Calls Tryz.prog 54 #[.slice none 0 0, .int .i64 K] w fun e w' => e = .returned (.int .i64 K) ∧ w' = w := by
  go_enter Tryz.func54, Tryz.ntmps54
  go_wp2
  go_rounds 1
  go_ret
  exact ⟨rfl, rfl⟩
theorem mkNilM (K : Int) (w : World) : Calls Tryz.prog 80 #[.slice none 0 0, .int .i64 K] w fun e w' => e = .returned (.int .i64 K) ∧ w' = w := by
  go_enter Tryz.func80, Tryz.ntmps80
  go_wp2
  go_rounds 1
  go_ret
  exact ⟨rfl, rfl⟩
theorem hdNilM (K : Int) (w : World) : Calls Tryz.prog 86 #[.slice none 0 0, .int .i64 K] w fun e w' => e = .returned (.int .i64 K) ∧ w' = w := by
  go_enter Tryz.func86, Tryz.ntmps86
  go_wp2
  go_rounds 1
  go_ret
  exact ⟨rfl, rfl⟩
theorem mkLs (g n : Nat) (K : Int) (hK : 0 ≤ K) (hn : n ≤ 1048576) (w : World) (h : w.heap[g]? = some (.cells (Array.replicate n (Value.slice none 0 0)) 127)) :
    Calls Tryz.prog 46 #[.slice (some ⟨g, 0, none⟩) n n, .int .i64 K] w fun e w' => e = .returned (.int .i64 K) ∧ w' = w := by
  have HC : Hid (∀ j, j < n → w.cell? ⟨g, j, none⟩ = some (.slice none 0 0)) := fun j hj => zrow_cell h j hj
  clear h
  go_enter Tryz.func46, Tryz.ntmps46
  go_wp2
  go_loopg [1, 5] n (fun gk kv i wr => ∃ j : Nat, j + gk = n ∧ kv = .int .i64 K ∧ i = .int .i64 j ∧ wr = w)
  case atStart => exact ⟨0, by omega, rfl, rfl, rfl⟩
  case round =>
    obtain ⟨j, hj, rfl, rfl, rfl⟩ := hrel
    by_cases hlt : j < n
    · have c0 := HC.out j hlt
      go_wp2_with fail
      refine (mkNilM K _).mono ?_
      rintro e w1 ⟨rfl, rfl⟩
      
      go_wp2
      go_roundg (gk - 1)
      case measure => omega
      case rel => exact ⟨j + 1, by omega, rfl, by go_num, rfl⟩
    · obtain rfl : n = j := by omega
      go_wp2
      go_ret
      exact ⟨rfl, rfl⟩
theorem hdLs (g n : Nat) (K : Int) (hK : 0 ≤ K) (hn : n ≤ 1048576) (w : World) (h : w.heap[g]? = some (.cells (Array.replicate n (Value.slice none 0 0)) 127)) :
    Calls Tryz.prog 52 #[.slice (some ⟨g, 0, none⟩) n n, .int .i64 K] w fun e w' => e = .returned (.int .i64 K) ∧ w' = w := by
  have HC : Hid (∀ j, j < n → w.cell? ⟨g, j, none⟩ = some (.slice none 0 0)) := fun j hj => zrow_cell h j hj
  clear h
  go_enter Tryz.func52, Tryz.ntmps52
  go_wp2
  go_loopg [1, 5] n (fun gk kv i wr => ∃ j : Nat, j + gk = n ∧ kv = .int .i64 K ∧ i = .int .i64 j ∧ wr = w)
  case atStart => exact ⟨0, by omega, rfl, rfl, rfl⟩
  case round =>
    obtain ⟨j, hj, rfl, rfl, rfl⟩ := hrel
    by_cases hlt : j < n
    · have c0 := HC.out j hlt
      go_wp2_with fail
      refine (hdNilM K _).mono ?_
      rintro e w1 ⟨rfl, rfl⟩
      have hK0 : ¬ K < 0 := by omega
      go_wp2
      go_roundg (gk - 1)
      case measure => omega
      case rel => exact ⟨j + 1, by omega, rfl, by go_num, rfl⟩
    · obtain rfl : n = j := by omega
      go_wp2
      go_ret
      exact ⟨rfl, rfl⟩
/-- the marks of so many parts, whose stacks are empty -/
def mqE (k j : Nat) : PV := (.int .i64 ((k : Int) + 5 * (j : Int)), .int .i64 ((k : Int) + 5 * (j : Int) + 1), .slice none 0 0, .int .i64 ((k : Int) + 5 * (j : Int) + 2), .int .i64 ((k : Int) + 5 * (j : Int) + 3), .int .i64 ((k : Int) + 5 * (j : Int) + 4))
def mqM (k n : Nat) : List PV := (List.range n).map (mqE k)
theorem mqM_len (k n : Nat) : (mqM k n).length = n := by simp [mqM]
theorem mqM_at (k n j : Nat) (h : j < (mqM k n).length) : (mqM k n)[j] = mqE k j := by simp [mqM]
theorem mqM_snoc (k n : Nat) : mqM k (n + 1) = mqM k n ++ [mqE k n] := by simp [mqM, List.range_succ]
def mqX (k n j : Nat) : List PV := mqM k j ++ List.replicate (n - j) zeroP
theorem mqX_len {k n j : Nat} (h : j ≤ n) : (mqX k n j).length = n := by simp [mqX, mqM_len]; omega
theorem mqX_zero (k n : Nat) : mqX k n 0 = List.replicate n zeroP := by simp [mqX, mqM]
theorem mqX_all (k n : Nat) : mqX k n n = mqM k n := by simp [mqX]
theorem mqX_at {k n j : Nat} (h : j < n) (h' : j < (mqX k n j).length) : (mqX k n j)[j] = zeroP := by
  have e : (mqX k n j)[j]? = some zeroP := by
    unfold mqX
    rw [List.getElem?_append_right (by rw [mqM_len]; omega), mqM_len, Nat.sub_self, List.getElem?_replicate, if_pos (by omega)]
  rw [List.getElem?_eq_getElem h'] at e
  exact Option.some.inj e
theorem mqX_set {k n j : Nat} (h : j < n) : (mqX k n j).set j (mqE k j) = mqX k n (j + 1) := by
  unfold mqX
  rw [List.set_append_right _ _ (by rw [mqM_len]; omega), mqM_len, Nat.sub_self, mqM_snoc]
  obtain ⟨m, hm⟩ : ∃ m, n - j = m + 1 := ⟨n - j - 1, by omega⟩
  rw [hm, show n - (j + 1) = m by omega, List.replicate_succ, List.set_cons_zero]
  simp
theorem set_same {L : List Value} {i : Nat} {v : Value} (h : L[i]? = some v) : L.set i v = L := by
  apply List.ext_getElem?
  intro m
  by_cases e : i = m
  · subst e
    rw [List.getElem?_set_self (List.getElem?_eq_some_iff.1 h).1, h]
  · rw [List.getElem?_set_ne e]
theorem parV_set5 (l : List PV) (j : Nat) (hj : j < l.length) (x y z u v a : Value) (hz : l[j].2.2.1 = z) : (((((parV l).set (j * 6) x).set (j * 6 + 1) y).set (j * 6 + 3) u).set (j * 6 + 4) v).set (j * 6 + 5) a = parV (l.set j (x, y, z, u, v, a)) := by
  rw [← parV_set]
  congr 3
  refine (set_same ?_).symm
  rw [List.getElem?_set_ne (by omega), List.getElem?_set_ne (by omega), ← hz]
  exact (parV_at l j hj).2.2.1
theorem own_rowQ {w : World} {B g n : Nat} {l : List PV} (h : w.ownsRow B 123 6 (.slice (some ⟨g, 0, none⟩) n n) n (parV l)) : RowQ w g l := by
  rcases h.2 with ⟨e, _⟩ | ⟨g', cap, cur, e, _, hh, hnc, _, hcs, htake⟩
  · cases e
  · cases e
    unfold RowQ
    rw [hh, ← htake, List.take_of_length_le (by rw [Array.length_toList, hcs]; exact Nat.le_refl _), Array.toArray_toList]
set_option maxRecDepth 100000 in
set_option maxHeartbeats 8000000 in
theorem mkPs (B g n k : Nat) (K : Int) (hK : K = k) (hn : n ≤ 1048576) (hk : k ≤ 1000000) (w : World) (hr : RowQ w g (List.replicate n zeroP)) (hB : B ≤ w.heap.size) (hg : B ≤ g) :
    Calls Tryz.prog 45 #[.slice (some ⟨g, 0, none⟩) n n, .int .i64 K] w fun e w' => e = .returned (.int .i64 (K + 5 * n)) ∧ RowQ w' g (mqM k n) ∧ Below B w w' ∧ w.grownBy w' (some g) := by
  subst hK
  have HO0 : Hid (w.ownsRow B 123 6 (.slice (some ⟨g, 0, none⟩) n n) n (parV (mqX k n 0))) := by rw [mqX_zero]; exact row_own hr hg (by rw [parV_len]; simp) hn
  clear hr
  go_enter Tryz.func45, Tryz.ntmps45
  go_wp2
  go_loopg [1, 5] n (fun gk kv i wr => ∃ j : Nat, j + gk = n ∧ kv = .int .i64 ((k : Int) + 5 * (j : Int)) ∧ i = .int .i64 j ∧ Hid (wr.ownsRow B 123 6 (.slice (some ⟨g, 0, none⟩) n n) n (parV (mqX k n j))) ∧ Hid (Below B w wr) ∧ Hid (w.grownBy wr (some g)))
  case atStart => exact ⟨0, by omega, by simp, rfl, HO0, Below.refl _ _, World.grownBy.refl _ _⟩
  case round =>
    clear HO0
    obtain ⟨j, hj, rfl, rfl, HO, HW, HG⟩ := hrel
    by_cases hlt : j < n
    · have hm : (mqX k n j).length = n := mqX_len (by omega)
      have hat := (parV_at (mqX k n j) j (by omega)).2.2.1
      rw [mqX_at hlt] at hat
      have HAT : Hid ((parV (mqX k n j))[j * 6 + 2]? = some (.slice none 0 0)) := hat
      have hS : MkS w wr B 123 6 g n n (parV (mqX k n j)) := ⟨HO.out, HW.out, HG.out⟩
      clear HO hat hm HW HG
      go_upto_region 8 with (refine listStoreM rfl rfl _ _ _ rfl rfl g _ _ rfl rfl (by assumption) (by omega) ?_; intro W hS)
      have hc2 : W.cell? ⟨g, j * 6 + 2, none⟩ = some (.slice none 0 0) := by
        have h2 := hS.o.cellAt (j * 6 + 2) (by omega)
        rw [List.getElem?_set_ne (by omega), List.getElem?_set_ne (by omega), HAT.out] at h2
        exact h2
      go_wp2_with fail
      refine (mkNil _ _).mono ?_
      rintro e W2 ⟨rfl, rfl⟩
      clear hc2
      go_wp2_with (refine listStoreM rfl rfl _ _ _ rfl rfl g _ _ rfl rfl (by assumption) (by omega) ?_; intro W hS)
      have HS : Hid (World.ownsRow W B 123 6 (.slice (some ⟨g, 0, none⟩) n n) n (parV (mqX k n (j + 1)))) := by
        have hh := hS.o
        have e2 : ∀ x : Int, x + 1 + 1 = x + 2 := fun x => by omega
        have e3 : ∀ x : Int, x + 2 + 1 = x + 3 := fun x => by omega
        have e4 : ∀ x : Int, x + 3 + 1 = x + 4 := fun x => by omega
        try rw [e2] at hh
        try rw [e3] at hh
        try rw [e4] at hh
        rw [parV_set5 _ j (by rw [mqX_len (by omega)]; exact hlt) _ _ (.slice none 0 0) _ _ _ (by rw [mqX_at hlt]; rfl)] at hh
        have e5 := mqX_set (k := k) hlt
        unfold mqE at e5
        rw [e5] at hh
        exact hh
      have HW' : Hid (Below B w W) := hS.b
      have HG' : Hid (w.grownBy W (some g)) := hS.g
      clear hS
      go_roundg (gk - 1)
      case measure => omega
      case rel => exact ⟨j + 1, by omega, by go_num, by go_num, HS, HW', HG'⟩
    · obtain rfl : n = j := by omega
      have HR : Hid (RowQ wr g (mqM k n)) := by
        have h := HO.out
        rw [mqX_all] at h
        exact own_rowQ h
      clear HO
      go_wp2
      go_ret
      exact ⟨by go_num, HR.out, HW.out, HG.out⟩
set_option maxRecDepth 100000 in
set_option maxHeartbeats 4000000 in
theorem hdPs (g n k : Nat) (K : Int) (hK : K = k) (hn : n ≤ 1048576) (hk : k ≤ 1000000) (w : World) (hr : RowQ w g (mqM k n)) :
    Calls Tryz.prog 51 #[.slice (some ⟨g, 0, none⟩) n n, .int .i64 K] w fun e w' => e = .returned (.int .i64 (K + 5 * n)) ∧ w' = w := by
  subst hK
  have HR : Hid (RowQ w g (mqM k n)) := hr
  clear hr
  go_enter Tryz.func51, Tryz.ntmps51
  go_wp2
  go_loopg [1, 5] n (fun gk kv i wr => ∃ j : Nat, j + gk = n ∧ kv = .int .i64 ((k : Int) + 5 * (j : Int)) ∧ i = .int .i64 j ∧ wr = w)
  case atStart => exact ⟨0, by omega, by simp, rfl, rfl⟩
  case round =>
    obtain ⟨j, hj, rfl, rfl, rfl⟩ := hrel
    by_cases hlt : j < n
    · have c := HR.out.cell j (by rw [mqM_len]; exact hlt)
      rw [mqM_at] at c
      unfold mqE at c
      obtain ⟨c0, c1, c2, c3, c4, c5⟩ := c
      have hp : ¬ (k : Int) + 5 * (j : Int) + 1 + 1 < 0 := by omega
      have hp2 : ¬ (k : Int) + 5 * (j : Int) + 2 < 0 := by omega
      have e2 : (k : Int) + 5 * (j : Int) + 1 + 1 = (k : Int) + 5 * (j : Int) + 2 := by omega
      go_wp2_with fail
      refine (hdNil _ _).mono ?_
      rintro e W2 ⟨rfl, rfl⟩
      go_wp2
      go_roundg (gk - 1)
      case measure => omega
      case rel => exact ⟨j + 1, by omega, by go_num, by go_num, rfl⟩
    · obtain rfl : n = j := by omega
      go_wp2
      go_ret
      exact ⟨by go_num, rfl⟩
/-- a kernel that is begun, marked -/
structure Mrk (w : World) (lo : Nat) (s : SH) (X : SX) (gA gP gL gO : Nat) : Prop where
  x : OwnX w lo s (mkX s.n0 s.n1 s.n2 s.n3 s.n4)
  a : RowAt w gA (C.marks (mkN s.n0 s.n1 s.n2 s.n3 s.n4) 64)
  p : RowQ w gP (mqM (mkN s.n0 s.n1 s.n2 s.n3 s.n4 + 64) X.R.length)
  l : w.heap[gL]? = some (.cells (Array.replicate X.O.length (Value.slice none 0 0)) 127)
  o : RowAt w gO (C.marks (mkN s.n0 s.n1 s.n2 s.n3 s.n4 + 64 + 5 * X.R.length) 8)
theorem Mrk.on {w w' : World} {lo : Nat} {s : SH} {X : SX} {gA gP gL gO : Nat} (h : Mrk w lo s X gA gP gL gO) (hb : Below w.heap.size w w') : Mrk w' lo s X gA gP gL gO :=
  ⟨h.x.bel hb, row_on h.a hb, h.p.on hb, row_on h.l hb, row_on h.o hb⟩
def mrkN (s : SH) (X : SX) : Nat := mkN s.n0 s.n1 s.n2 s.n3 s.n4 + 64 + 5 * X.R.length + 8
theorem gr_row {w w' : World} {g k : Nat} {o : Obj} (hg : w.grownBy w' (some g)) (h : w.heap[k]? = some o) (hne : k ≠ g) : w'.heap[k]? = some o :=
  (hg.block k (row_lt h) (fun e => hne (by cases e; rfl))).trans h
theorem ty_ne {w : World} {k g : Nat} {cs cs' : Array Value} {T T' : TypeId} (h : w.heap[k]? = some (.cells cs T)) (h' : w.heap[g]? = some (.cells cs' T')) (hT : T ≠ T') : k ≠ g := fun e => by
  subst e
  have := Option.some.inj (h.symm.trans h')
  injection this with _ h2
  exact hT h2
theorem farI : FarT 3 := ⟨by decide, by decide, by decide, by decide, by decide⟩
theorem farP : FarT 123 := ⟨by decide, by decide, by decide, by decide, by decide⟩
theorem farL : FarT 127 := ⟨by decide, by decide, by decide, by decide, by decide⟩
theorem gr_ownX {w w' : World} {B k : Nat} {s : SH} {X : SX} (h : OwnX w B s X) {cs : Array Value} {T : TypeId} (hk : w.heap[k]? = some (.cells cs T)) (hT : FarT T) (hg : w.grownBy w' (some k)) : OwnX w' B s X := h.gr hk ⟨hT.t0, hT.t1, hT.t2, hT.t3, hT.t4⟩ hg
set_option maxRecDepth 100000 in
set_option maxHeartbeats 4000000 in
theorem mkBorn (s : SH) (X : SX) (lo gA gP gL gO : Nat) (w : World) (h : Born w lo s X gA gP gL gO) (hne : gA ≠ gO) (hf : FewX X) (hB : lo ≤ w.heap.size) :
    Calls Tryz.prog 11 #[KerV (bornH s X gA gP gL gO) (bornK X), .int .i64 1] w fun e w' => e = .returned (.int .i64 (mrkN s X : Nat)) ∧ Mrk w' lo s X gA gP gL gO ∧ Below lo w w' ∧ (∀ (g : Nat) (cs : Array Value), w.heap[g]? = some (.cells cs 43) → w'.heap[g]? = some (.cells cs 43)) := by
  obtain ⟨p, hp⟩ : ∃ p, X.R.length = p := ⟨_, rfl⟩
  obtain ⟨l, hl⟩ : ∃ l, X.O.length = l := ⟨_, rfl⟩
  have hlen := h.x.len
  rw [kerV_born s X gA gP gL gO p l hp hl]
  have HP : Hid (X.R.length = p ∧ X.O.length = l) := ⟨hp, hl⟩
  have HF : Hid (FewX X) := hf
  obtain ⟨f0, f1, f2, f3, f4, _⟩ := hf
  obtain ⟨q0, n0, c0, q1, n1, c1, q2, n2, c2, q3, n3, c3, q4, n4, c4⟩ := s
  obtain ⟨e0, e1, e2, e3, e4⟩ := hlen
  dsimp only at e0 e1 e2 e3 e4
  have hp12 : p ≤ 12 := by rw [← hp]; exact f0
  have hl12 : l ≤ 12 := by rw [← hl]; exact f2
  rw [e0] at f0
  rw [e1] at f1
  rw [e2] at f2
  rw [e3] at f3
  rw [e4] at f4
  obtain ⟨hx, ha, hpr, hlr, ho, la, lp, ll, lo_⟩ := h
  have hal : Below w.heap.size w (w.alloc (.cells #[.slice q0 n0 c0, .slice q1 n1 c1, .slice q2 n2 c2, .slice q3 n3 c3, .slice q4 n4 c4, .slice (some ⟨gA, 0, none⟩) 64 64, .slice (some ⟨gP, 0, none⟩) p p, .slice (some ⟨gL, 0, none⟩) l l, .slice (some ⟨gO, 0, none⟩) 8 8, .int .i64 0, .bool false, .slice none 0 0] 43)) := (Below.refl _ _).alloc (Nat.le_refl _) _
  have HX0 : Hid (OwnX (w.alloc (.cells #[.slice q0 n0 c0, .slice q1 n1 c1, .slice q2 n2 c2, .slice q3 n3 c3, .slice q4 n4 c4, .slice (some ⟨gA, 0, none⟩) 64 64, .slice (some ⟨gP, 0, none⟩) p p, .slice (some ⟨gL, 0, none⟩) l l, .slice (some ⟨gO, 0, none⟩) 8 8, .int .i64 0, .bool false, .slice none 0 0] 43)) lo ⟨q0, n0, c0, q1, n1, c1, q2, n2, c2, q3, n3, c3, q4, n4, c4⟩ X) := hx.bel hal
  have HA0 : Hid (RowAt (w.alloc (.cells #[.slice q0 n0 c0, .slice q1 n1 c1, .slice q2 n2 c2, .slice q3 n3 c3, .slice q4 n4 c4, .slice (some ⟨gA, 0, none⟩) 64 64, .slice (some ⟨gP, 0, none⟩) p p, .slice (some ⟨gL, 0, none⟩) l l, .slice (some ⟨gO, 0, none⟩) 8 8, .int .i64 0, .bool false, .slice none 0 0] 43)) gA z64k) := row_on ha hal
  have HQ0 : Hid (RowQ (w.alloc (.cells #[.slice q0 n0 c0, .slice q1 n1 c1, .slice q2 n2 c2, .slice q3 n3 c3, .slice q4 n4 c4, .slice (some ⟨gA, 0, none⟩) 64 64, .slice (some ⟨gP, 0, none⟩) p p, .slice (some ⟨gL, 0, none⟩) l l, .slice (some ⟨gO, 0, none⟩) 8 8, .int .i64 0, .bool false, .slice none 0 0] 43)) gP (List.replicate p zeroP)) := by rw [hp] at hpr; exact hpr.on hal
  have HL0 : Hid ((w.alloc (.cells #[.slice q0 n0 c0, .slice q1 n1 c1, .slice q2 n2 c2, .slice q3 n3 c3, .slice q4 n4 c4, .slice (some ⟨gA, 0, none⟩) 64 64, .slice (some ⟨gP, 0, none⟩) p p, .slice (some ⟨gL, 0, none⟩) l l, .slice (some ⟨gO, 0, none⟩) 8 8, .int .i64 0, .bool false, .slice none 0 0] 43)).heap[gL]? = some (.cells (Array.replicate l (Value.slice none 0 0)) 127)) := by rw [hl] at hlr; exact row_on hlr hal
  have HO0 : Hid (RowAt (w.alloc (.cells #[.slice q0 n0 c0, .slice q1 n1 c1, .slice q2 n2 c2, .slice q3 n3 c3, .slice q4 n4 c4, .slice (some ⟨gA, 0, none⟩) 64 64, .slice (some ⟨gP, 0, none⟩) p p, .slice (some ⟨gL, 0, none⟩) l l, .slice (some ⟨gO, 0, none⟩) 8 8, .int .i64 0, .bool false, .slice none 0 0] 43)) gO z8k) := row_on ho hal
  have HK0 : Hid ((w.alloc (.cells #[.slice q0 n0 c0, .slice q1 n1 c1, .slice q2 n2 c2, .slice q3 n3 c3, .slice q4 n4 c4, .slice (some ⟨gA, 0, none⟩) 64 64, .slice (some ⟨gP, 0, none⟩) p p, .slice (some ⟨gL, 0, none⟩) l l, .slice (some ⟨gO, 0, none⟩) 8 8, .int .i64 0, .bool false, .slice none 0 0] 43)).heap[w.heap.size]? = some (.cells #[.slice q0 n0 c0, .slice q1 n1 c1, .slice q2 n2 c2, .slice q3 n3 c3, .slice q4 n4 c4, .slice (some ⟨gA, 0, none⟩) 64 64, .slice (some ⟨gP, 0, none⟩) p p, .slice (some ⟨gL, 0, none⟩) l l, .slice (some ⟨gO, 0, none⟩) 8 8, .int .i64 0, .bool false, .slice none 0 0] 43)) := heap_new w _
  have HB0 : Hid (Below lo w (w.alloc (.cells #[.slice q0 n0 c0, .slice q1 n1 c1, .slice q2 n2 c2, .slice q3 n3 c3, .slice q4 n4 c4, .slice (some ⟨gA, 0, none⟩) 64 64, .slice (some ⟨gP, 0, none⟩) p p, .slice (some ⟨gL, 0, none⟩) l l, .slice (some ⟨gO, 0, none⟩) 8 8, .int .i64 0, .bool false, .slice none 0 0] 43))) := hal.mono hB
  have hS0 : lo ≤ (w.alloc (.cells #[.slice q0 n0 c0, .slice q1 n1 c1, .slice q2 n2 c2, .slice q3 n3 c3, .slice q4 n4 c4, .slice (some ⟨gA, 0, none⟩) 64 64, .slice (some ⟨gP, 0, none⟩) p p, .slice (some ⟨gL, 0, none⟩) l l, .slice (some ⟨gO, 0, none⟩) 8 8, .int .i64 0, .bool false, .slice none 0 0] 43)).heap.size := by simp; omega
  clear hx ha hpr hlr ho hal hp hl e0 e1 e2 e3 e4
  have k0 := box12_cells HK0.out
  obtain ⟨N, hN⟩ : ∃ N, mkN n0 n1 n2 n3 n4 = N := ⟨_, rfl⟩
  have hN1 : N ≤ 1000 := by rw [← hN]; unfold mkN; omega
  go_enter Tryz.func11, Tryz.ntmps11
  go_wp2_with fail
  refine (markSet ⟨q0, n0, c0, q1, n1, c1, q2, n2, c2, q3, n3, c3, q4, n4, c4⟩ X lo _ HX0.out hS0 HF.out).mono ?_
  rintro e w1 ⟨rfl, hx1, hb1, hfar⟩
  dsimp only at hx1 ⊢
  rw [hN]
  have HX1 : Hid (OwnX w1 lo ⟨q0, n0, c0, q1, n1, c1, q2, n2, c2, q3, n3, c3, q4, n4, c4⟩ (mkX n0 n1 n2 n3 n4)) := hx1
  have HA1 : Hid (RowAt w1 gA z64k) := hfar _ _ _ farI HA0.out
  have HQ1 : Hid (RowQ w1 gP (List.replicate p zeroP)) := hfar _ _ _ farP HQ0.out
  have HL1 : Hid (w1.heap[gL]? = some (.cells (Array.replicate l (Value.slice none 0 0)) 127)) := hfar _ _ _ farL HL0.out
  have HO1 : Hid (RowAt w1 gO z8k) := hfar _ _ _ farI HO0.out
  have HK1 : Hid (w1.heap[w.heap.size]? = some (.cells #[.slice q0 n0 c0, .slice q1 n1 c1, .slice q2 n2 c2, .slice q3 n3 c3, .slice q4 n4 c4, .slice (some ⟨gA, 0, none⟩) 64 64, .slice (some ⟨gP, 0, none⟩) p p, .slice (some ⟨gL, 0, none⟩) l l, .slice (some ⟨gO, 0, none⟩) 8 8, .int .i64 0, .bool false, .slice none 0 0] 43)) := hfar _ _ _ farK HK0.out
  have HB1 : Hid (Below lo w w1) := HB0.out.trans hb1
  have HZ1 : Hid (∀ (g : Nat) (cs : Array Value), w.heap[g]? = some (.cells cs 43) → w1.heap[g]? = some (.cells cs 43)) := fun g cs h => hfar _ _ _ farK (row_on h ((Below.refl _ _).alloc (Nat.le_refl _) _))
  clear hx1 hb1 hfar HX0 HA0 HQ0 HL0 HO0 HK0 HB0 k0
  have k1 := box12_cells HK1.out
  go_wp2_with fail
  refine (C.markA gA z64k 64 N N rfl (by simp [z64k]) (by decide) (by omega) _ HA1.out).mono ?_
  rintro e w2 ⟨rfl, ha2, hg⟩
  have HX2 := gr_ownX HX1.out HA1.out farI hg
  have HA2 : Hid (RowAt w2 gA (C.marks N 64)) := ha2
  have HQ2 : Hid (RowQ w2 gP (List.replicate p zeroP)) := gr_row hg HQ1.out (ty_ne HQ1.out HA1.out (by decide))
  have HL2 : Hid (w2.heap[gL]? = some (.cells (Array.replicate l (Value.slice none 0 0)) 127)) := gr_row hg HL1.out (ty_ne HL1.out HA1.out (by decide))
  have HO2 : Hid (RowAt w2 gO z8k) := gr_row hg HO1.out (Ne.symm hne)
  have HK2 : Hid (w2.heap[w.heap.size]? = some (.cells #[.slice q0 n0 c0, .slice q1 n1 c1, .slice q2 n2 c2, .slice q3 n3 c3, .slice q4 n4 c4, .slice (some ⟨gA, 0, none⟩) 64 64, .slice (some ⟨gP, 0, none⟩) p p, .slice (some ⟨gL, 0, none⟩) l l, .slice (some ⟨gO, 0, none⟩) 8 8, .int .i64 0, .bool false, .slice none 0 0] 43)) := gr_row hg HK1.out (ty_ne HK1.out HA1.out (by decide))
  have HB2 : Hid (Below lo w w2) := HB1.out.trans ((Below.refl _ _).grown hg (Nat.le_trans hB HB1.out.size) (fun k hk => by cases hk; exact la))
  have HZ2 : Hid (∀ (g : Nat) (cs : Array Value), w.heap[g]? = some (.cells cs 43) → w2.heap[g]? = some (.cells cs 43)) := fun g cs h => gr_row hg (HZ1.out g cs h) (ty_ne (HZ1.out g cs h) HA1.out (by decide))
  clear ha2 hg HX1 HA1 HQ1 HL1 HO1 HK1 HB1 k1 HZ1
  have k2 := box12_cells HK2.out
  go_wp2_with fail
  refine (mkPs lo gP p (N + 64) _ (by omega) (by omega) (by omega) _ HQ2.out (Nat.le_trans hB HB2.out.size) lp).mono ?_
  rintro e w3 ⟨rfl, hq3, hb3, hg⟩
  have HX3 := gr_ownX HX2 HQ2.out farP hg
  have HA3 : Hid (RowAt w3 gA (C.marks N 64)) := gr_row hg HA2.out (ty_ne HA2.out HQ2.out (by decide))
  have HQ3 : Hid (RowQ w3 gP (mqM (N + 64) p)) := hq3
  have HL3 : Hid (w3.heap[gL]? = some (.cells (Array.replicate l (Value.slice none 0 0)) 127)) := gr_row hg HL2.out (ty_ne HL2.out HQ2.out (by decide))
  have HO3 : Hid (RowAt w3 gO z8k) := gr_row hg HO2.out (ty_ne HO2.out HQ2.out (by decide))
  have HK3 : Hid (w3.heap[w.heap.size]? = some (.cells #[.slice q0 n0 c0, .slice q1 n1 c1, .slice q2 n2 c2, .slice q3 n3 c3, .slice q4 n4 c4, .slice (some ⟨gA, 0, none⟩) 64 64, .slice (some ⟨gP, 0, none⟩) p p, .slice (some ⟨gL, 0, none⟩) l l, .slice (some ⟨gO, 0, none⟩) 8 8, .int .i64 0, .bool false, .slice none 0 0] 43)) := gr_row hg HK2.out (ty_ne HK2.out HQ2.out (by decide))
  have HB3 : Hid (Below lo w w3) := HB2.out.trans hb3
  have HZ3 : Hid (∀ (g : Nat) (cs : Array Value), w.heap[g]? = some (.cells cs 43) → w3.heap[g]? = some (.cells cs 43)) := fun g cs h => gr_row hg (HZ2.out g cs h) (ty_ne (HZ2.out g cs h) HQ2.out (by decide))
  clear hq3 hb3 hg HX2 HA2 HQ2 HL2 HO2 HK2 HB2 k2 HZ2
  have k3 := box12_cells HK3.out
  go_wp2_with fail
  refine (mkLs gL l _ (by omega) (by omega) _ HL3.out).mono ?_
  rintro e w4 ⟨rfl, rfl⟩
  go_wp2_with fail
  refine (C.markI gO z8k 8 (N + 64 + 5 * p) (by simp [z8k]) (by decide) (by omega) _ HO3.out).mono ?_
  rintro e w5 ⟨rfl, ho5, hg⟩
  have HX5 := gr_ownX HX3 HO3.out farI hg
  have HA5 : Hid (RowAt w5 gA (C.marks N 64)) := gr_row hg HA3.out hne
  have HQ5 : Hid (RowQ w5 gP (mqM (N + 64) p)) := gr_row hg HQ3.out (ty_ne HQ3.out HO3.out (by decide))
  have HL5 : Hid (w5.heap[gL]? = some (.cells (Array.replicate l (Value.slice none 0 0)) 127)) := gr_row hg HL3.out (ty_ne HL3.out HO3.out (by decide))
  have HO5 : Hid (RowAt w5 gO (C.marks (N + 64 + 5 * p) 8)) := ho5
  have HK5 : Hid (w5.heap[w.heap.size]? = some (.cells #[.slice q0 n0 c0, .slice q1 n1 c1, .slice q2 n2 c2, .slice q3 n3 c3, .slice q4 n4 c4, .slice (some ⟨gA, 0, none⟩) 64 64, .slice (some ⟨gP, 0, none⟩) p p, .slice (some ⟨gL, 0, none⟩) l l, .slice (some ⟨gO, 0, none⟩) 8 8, .int .i64 0, .bool false, .slice none 0 0] 43)) := gr_row hg HK3.out (ty_ne HK3.out HO3.out (by decide))
  have HB5 : Hid (Below lo w w5) := HB3.out.trans ((Below.refl _ _).grown hg (Nat.le_trans hB HB3.out.size) (fun k hk => by cases hk; exact lo_))
  have HZ5 : Hid (∀ (g : Nat) (cs : Array Value), w.heap[g]? = some (.cells cs 43) → w5.heap[g]? = some (.cells cs 43)) := fun g cs h => gr_row hg (HZ3.out g cs h) (ty_ne (HZ3.out g cs h) HO3.out (by decide))
  clear ho5 hg HX3 HA3 HQ3 HL3 HO3 HK3 HB3 k3 HZ3
  have k5 := box12_cells HK5.out
  go_wp2_with fail
  refine (mkNilE _ _).mono ?_
  rintro e w6 ⟨rfl, rfl⟩
  go_wp2
  go_ret
  refine ⟨?_, ⟨HX5, ?_, ?_, ?_, ?_⟩, HB5.out, HZ5.out⟩
  · unfold mrkN
    dsimp only
    rw [hN, HP.out.1]
    show Ending.returned (.int .i64 _) = _
    congr 2
  · dsimp only; rw [hN]; exact HA5.out
  · dsimp only; rw [hN, HP.out.1]; exact HQ5.out
  · rw [HP.out.2]; exact HL5.out
  · dsimp only; rw [hN, HP.out.1]; exact HO5.out
set_option maxRecDepth 100000 in
set_option maxHeartbeats 4000000 in
theorem hdBorn (s : SH) (X : SX) (lo gA gP gL gO : Nat) (w : World) (h : Mrk w lo s X gA gP gL gO) (hln : X.R.length = s.n0 ∧ X.W.length = s.n1 ∧ X.O.length = s.n2 ∧ X.U.length = s.n3 ∧ X.S.length = s.n4) (hf : FewX X) :
    Calls Tryz.prog 12 #[KerV (bornH s X gA gP gL gO) (bornK X), .int .i64 1] w fun e w' => e = .returned (.int .i64 (mrkN s X : Nat)) ∧ Below w.heap.size w w' := by
  obtain ⟨p, hp⟩ : ∃ p, X.R.length = p := ⟨_, rfl⟩
  obtain ⟨l, hl⟩ : ∃ l, X.O.length = l := ⟨_, rfl⟩
  rw [kerV_born s X gA gP gL gO p l hp hl]
  have HP : Hid (X.R.length = p ∧ X.O.length = l) := ⟨hp, hl⟩
  obtain ⟨f0, f1, f2, f3, f4, _⟩ := hf
  obtain ⟨q0, n0, c0, q1, n1, c1, q2, n2, c2, q3, n3, c3, q4, n4, c4⟩ := s
  obtain ⟨e0, e1, e2, e3, e4⟩ := hln
  dsimp only at e0 e1 e2 e3 e4
  have hp12 : p ≤ 12 := by rw [← hp]; exact f0
  have hl12 : l ≤ 12 := by rw [← hl]; exact f2
  rw [e0] at f0
  rw [e1] at f1
  rw [e2] at f2
  rw [e3] at f3
  rw [e4] at f4
  obtain ⟨hx, ha, hpr, hlr, ho⟩ := h
  dsimp only at hx ha hpr ho
  obtain ⟨N, hN⟩ : ∃ N, mkN n0 n1 n2 n3 n4 = N := ⟨_, rfl⟩
  have hN1 : N ≤ 1000 := by rw [← hN]; unfold mkN; omega
  rw [hN] at ha
  rw [hN, hp] at hpr
  rw [hN, hp] at ho
  rw [hl] at hlr
  have hal : Below w.heap.size w (w.alloc (.cells #[.slice q0 n0 c0, .slice q1 n1 c1, .slice q2 n2 c2, .slice q3 n3 c3, .slice q4 n4 c4, .slice (some ⟨gA, 0, none⟩) 64 64, .slice (some ⟨gP, 0, none⟩) p p, .slice (some ⟨gL, 0, none⟩) l l, .slice (some ⟨gO, 0, none⟩) 8 8, .int .i64 0, .bool false, .slice none 0 0] 43)) := (Below.refl _ _).alloc (Nat.le_refl _) _
  have HX0 : Hid (OwnX (w.alloc (.cells #[.slice q0 n0 c0, .slice q1 n1 c1, .slice q2 n2 c2, .slice q3 n3 c3, .slice q4 n4 c4, .slice (some ⟨gA, 0, none⟩) 64 64, .slice (some ⟨gP, 0, none⟩) p p, .slice (some ⟨gL, 0, none⟩) l l, .slice (some ⟨gO, 0, none⟩) 8 8, .int .i64 0, .bool false, .slice none 0 0] 43)) lo ⟨q0, n0, c0, q1, n1, c1, q2, n2, c2, q3, n3, c3, q4, n4, c4⟩ (mkX n0 n1 n2 n3 n4)) := hx.bel hal
  have HA0 : Hid (RowAt (w.alloc (.cells #[.slice q0 n0 c0, .slice q1 n1 c1, .slice q2 n2 c2, .slice q3 n3 c3, .slice q4 n4 c4, .slice (some ⟨gA, 0, none⟩) 64 64, .slice (some ⟨gP, 0, none⟩) p p, .slice (some ⟨gL, 0, none⟩) l l, .slice (some ⟨gO, 0, none⟩) 8 8, .int .i64 0, .bool false, .slice none 0 0] 43)) gA (C.marks N 64)) := row_on ha hal
  have HQ0 : Hid (RowQ (w.alloc (.cells #[.slice q0 n0 c0, .slice q1 n1 c1, .slice q2 n2 c2, .slice q3 n3 c3, .slice q4 n4 c4, .slice (some ⟨gA, 0, none⟩) 64 64, .slice (some ⟨gP, 0, none⟩) p p, .slice (some ⟨gL, 0, none⟩) l l, .slice (some ⟨gO, 0, none⟩) 8 8, .int .i64 0, .bool false, .slice none 0 0] 43)) gP (mqM (N + 64) p)) := hpr.on hal
  have HL0 : Hid ((w.alloc (.cells #[.slice q0 n0 c0, .slice q1 n1 c1, .slice q2 n2 c2, .slice q3 n3 c3, .slice q4 n4 c4, .slice (some ⟨gA, 0, none⟩) 64 64, .slice (some ⟨gP, 0, none⟩) p p, .slice (some ⟨gL, 0, none⟩) l l, .slice (some ⟨gO, 0, none⟩) 8 8, .int .i64 0, .bool false, .slice none 0 0] 43)).heap[gL]? = some (.cells (Array.replicate l (Value.slice none 0 0)) 127)) := row_on hlr hal
  have HO0 : Hid (RowAt (w.alloc (.cells #[.slice q0 n0 c0, .slice q1 n1 c1, .slice q2 n2 c2, .slice q3 n3 c3, .slice q4 n4 c4, .slice (some ⟨gA, 0, none⟩) 64 64, .slice (some ⟨gP, 0, none⟩) p p, .slice (some ⟨gL, 0, none⟩) l l, .slice (some ⟨gO, 0, none⟩) 8 8, .int .i64 0, .bool false, .slice none 0 0] 43)) gO (C.marks (N + 64 + 5 * p) 8)) := row_on ho hal
  have HK0 : Hid ((w.alloc (.cells #[.slice q0 n0 c0, .slice q1 n1 c1, .slice q2 n2 c2, .slice q3 n3 c3, .slice q4 n4 c4, .slice (some ⟨gA, 0, none⟩) 64 64, .slice (some ⟨gP, 0, none⟩) p p, .slice (some ⟨gL, 0, none⟩) l l, .slice (some ⟨gO, 0, none⟩) 8 8, .int .i64 0, .bool false, .slice none 0 0] 43)).heap[w.heap.size]? = some (.cells #[.slice q0 n0 c0, .slice q1 n1 c1, .slice q2 n2 c2, .slice q3 n3 c3, .slice q4 n4 c4, .slice (some ⟨gA, 0, none⟩) 64 64, .slice (some ⟨gP, 0, none⟩) p p, .slice (some ⟨gL, 0, none⟩) l l, .slice (some ⟨gO, 0, none⟩) 8 8, .int .i64 0, .bool false, .slice none 0 0] 43)) := heap_new w _
  have HB0 : Hid (Below w.heap.size w (w.alloc (.cells #[.slice q0 n0 c0, .slice q1 n1 c1, .slice q2 n2 c2, .slice q3 n3 c3, .slice q4 n4 c4, .slice (some ⟨gA, 0, none⟩) 64 64, .slice (some ⟨gP, 0, none⟩) p p, .slice (some ⟨gL, 0, none⟩) l l, .slice (some ⟨gO, 0, none⟩) 8 8, .int .i64 0, .bool false, .slice none 0 0] 43))) := hal
  clear hx ha hpr hlr ho hal hp hl e0 e1 e2 e3 e4
  have k0 := box12_cells HK0.out
  have z1 : ¬ (N : Int) < 0 := by omega
  go_enter Tryz.func12, Tryz.ntmps12
  go_wp2_with fail
  refine (heldSet ⟨q0, n0, c0, q1, n1, c1, q2, n2, c2, q3, n3, c3, q4, n4, c4⟩ X lo _ HX0.out f0 f1 f2 f3 f4).mono ?_
  rintro e w1 ⟨rfl, hb1⟩
  dsimp only
  rw [hN]
  have HA1 : Hid (RowAt w1 gA (C.marks N 64)) := row_on HA0.out hb1
  have HQ1 : Hid (RowQ w1 gP (mqM (N + 64) p)) := HQ0.out.on hb1
  have HL1 : Hid (w1.heap[gL]? = some (.cells (Array.replicate l (Value.slice none 0 0)) 127)) := row_on HL0.out hb1
  have HO1 : Hid (RowAt w1 gO (C.marks (N + 64 + 5 * p) 8)) := row_on HO0.out hb1
  have HK1 : Hid (w1.heap[w.heap.size]? = some (.cells #[.slice q0 n0 c0, .slice q1 n1 c1, .slice q2 n2 c2, .slice q3 n3 c3, .slice q4 n4 c4, .slice (some ⟨gA, 0, none⟩) 64 64, .slice (some ⟨gP, 0, none⟩) p p, .slice (some ⟨gL, 0, none⟩) l l, .slice (some ⟨gO, 0, none⟩) 8 8, .int .i64 0, .bool false, .slice none 0 0] 43)) := row_on HK0.out hb1
  have HB1 : Hid (Below w.heap.size w w1) := bel_on (Nat.le_refl _) HB0.out hb1
  clear hb1 HX0 HA0 HQ0 HL0 HO0 HK0 HB0 k0
  have k1 := box12_cells HK1.out
  go_wp2_with fail
  refine (C.heldA gA 64 N N rfl (by decide) (by omega) _ HA1.out).mono ?_
  rintro e w2 ⟨rfl, hb2⟩
  have HQ2 : Hid (RowQ w2 gP (mqM (N + 64) p)) := HQ1.out.on hb2
  have HL2 : Hid (w2.heap[gL]? = some (.cells (Array.replicate l (Value.slice none 0 0)) 127)) := row_on HL1.out hb2
  have HO2 : Hid (RowAt w2 gO (C.marks (N + 64 + 5 * p) 8)) := row_on HO1.out hb2
  have HK2 : Hid (w2.heap[w.heap.size]? = some (.cells #[.slice q0 n0 c0, .slice q1 n1 c1, .slice q2 n2 c2, .slice q3 n3 c3, .slice q4 n4 c4, .slice (some ⟨gA, 0, none⟩) 64 64, .slice (some ⟨gP, 0, none⟩) p p, .slice (some ⟨gL, 0, none⟩) l l, .slice (some ⟨gO, 0, none⟩) 8 8, .int .i64 0, .bool false, .slice none 0 0] 43)) := row_on HK1.out hb2
  have HB2 : Hid (Below w.heap.size w w2) := bel_on (Nat.le_refl _) HB1.out hb2
  clear hb2 HA1 HQ1 HL1 HO1 HK1 HB1 k1
  have k2 := box12_cells HK2.out
  go_wp2_with fail
  refine (hdPs gP p (N + 64) _ (by omega) (by omega) (by omega) _ HQ2.out).mono ?_
  rintro e w3 ⟨rfl, rfl⟩
  go_wp2_with fail
  refine (hdLs gL l _ (by omega) (by omega) _ HL2.out).mono ?_
  rintro e w4 ⟨rfl, rfl⟩
  go_wp2_with fail
  refine (C.heldI gO 8 (N + 64 + 5 * p) (by decide) (by omega) _ HO2.out).mono ?_
  rintro e w5 ⟨rfl, rfl⟩
  go_wp2_with fail
  refine (hdNilE _ _).mono ?_
  rintro e w6 ⟨rfl, rfl⟩
  go_wp2
  go_ret
  refine ⟨?_, HB2.out⟩
  unfold mrkN
  dsimp only
  rw [hN, HP.out.1]
  show Ending.returned (.int .i64 _) = _
  congr 2
end Go.Proofs.YtphijlknefgkiaaGreatDoor

namespace Go.Proofs.YtphijlknefgkiaaGreatDoor
open Go.ChangeShapes Go.WideShapes Go.ChangeAt Go.RowKit Go.PlainAid
set_option linter.unusedVariables false
set_option linter.unusedSimpArgs false

def kOf (f : Int) (X : SX) : KX := if f = 0 then bornK X else noneK
/-- a kernel that the program answered -/
def GK (w : World) (lo : Nat) (k : KH) (f : Int) (X : SX) : Prop := (f = 0 ∧ ∃ s gA gP gL gO, k = bornH s X gA gP gL gO ∧ Born w lo s X gA gP gL gO ∧ gA ≠ gO) ∨ (f ≠ 0 ∧ k = noneH)
theorem GK.rd {w : World} {lo : Nat} {k : KH} {f : Int} {X : SX} (h : GK w lo k f X) : RdK w k (kOf f X) := by
  rcases h with ⟨h0, s, gA, gP, gL, gO, rfl, hb, _⟩ | ⟨h0, rfl⟩
  · unfold kOf; rw [if_pos h0]; exact hb.rd
  · unfold kOf; rw [if_neg h0]; exact none_rd w
theorem GK.on {w w' : World} {lo : Nat} {k : KH} {f : Int} {X : SX} (h : GK w lo k f X) (hb : Below w.heap.size w w') : GK w' lo k f X := by
  rcases h with ⟨h0, s, gA, gP, gL, gO, e, hB, hne⟩ | h
  · exact .inl ⟨h0, s, gA, gP, gL, gO, e, hB.on hb, hne⟩
  · exact .inr h
theorem own_mkd {w w' : World} {B T z n lo hi : Nat} {v : Value} {xs : List Value} (h : w.ownsRow B T z v n xs) (m : Mkd lo hi w w') (hB : hi ≤ B) : w'.ownsRow B T z v n xs := by
  refine ⟨h.1, ?_⟩
  rcases h.2 with h2 | ⟨g, cap, cur, e, hg, hh, h3⟩
  · exact .inl h2
  · exact .inr ⟨g, cap, cur, e, hg, m.row hh (.inr (Nat.le_trans hB hg)), h3⟩
theorem GK.mkd {w w' : World} {lo a hi : Nat} {k : KH} {f : Int} {X : SX} (h : GK w lo k f X) (m : Mkd a hi w w') (hB : hi ≤ lo) : GK w' lo k f X := by
  rcases h with ⟨h0, s, gA, gP, gL, gO, e, hB', hne⟩ | h
  · exact .inl ⟨h0, s, gA, gP, gL, gO, e, ⟨⟨own_mkd hB'.x.o0 m hB, own_mkd hB'.x.o1 m hB, own_mkd hB'.x.o2 m hB, own_mkd hB'.x.o3 m hB, own_mkd hB'.x.o4 m hB⟩, m.row hB'.a (.inr (Nat.le_trans hB hB'.la)), m.row hB'.p (.inr (Nat.le_trans hB hB'.lp)), m.row hB'.l (.inr (Nat.le_trans hB hB'.ll)), m.row hB'.o (.inr (Nat.le_trans hB hB'.lo_)), hB'.la, hB'.lp, hB'.ll, hB'.lo_⟩, hne⟩
  · exact .inr h
/-- .. marked: so far do its marks count -/
def GM (w : World) (lo : Nat) (k : KH) (f : Int) (X : SX) (r : Nat) : Prop := (f = 0 ∧ ∃ s gA gP gL gO, k = bornH s X gA gP gL gO ∧ Mrk w lo s X gA gP gL gO ∧ (X.R.length = s.n0 ∧ X.W.length = s.n1 ∧ X.O.length = s.n2 ∧ X.U.length = s.n3 ∧ X.S.length = s.n4) ∧ r = mrkN s X) ∨ (f ≠ 0 ∧ k = noneH ∧ r = 1)
theorem GM.on {w w' : World} {lo : Nat} {k : KH} {f : Int} {X : SX} {r : Nat} (h : GM w lo k f X r) (hb : Below w.heap.size w w') : GM w' lo k f X r := by
  rcases h with ⟨h0, s, gA, gP, gL, gO, e, hB, hl, hr⟩ | h
  · exact .inl ⟨h0, s, gA, gP, gL, gO, e, hB.on hb, hl, hr⟩
  · exact .inr h
theorem few_rightK {Y : SX} (h : RightX Y) (hb : S.bytesS Y.S ≤ 1048576) : FewX Y := by
  obtain ⟨hr, hw, ho, hu, hs, _⟩ := h
  have h1 := hr.2.1
  have h2 := hw.1.2
  have h3 := ho.1
  have h4 := hu.2
  have h5 := hs.1
  exact ⟨by omega, by omega, by omega, by omega, by omega, hb⟩
theorem few_f {X : SX} {f : Int} (hf : FaultX X f) (h0 : f = 0) (hb : S.bytesS X.S ≤ 1048576) : FewX X := few_rightK ((fault_right hf).1 h0) hb
theorem smK_of {f : Int} {X : SX} {w w' : World} {s : SH} {k : KH} (hs : SmX s X) (hr : RdX w s X) (h : RdK w' k (kOf f X)) : SmK k (kOf f X) := by
  have hx := h.x
  by_cases h0 : f = 0
  · have e : kOf f X = bornK X := if_pos h0
    rw [e] at hx ⊢
    have l0 := hr.l0; have l1 := hr.l1; have l2 := hr.l2; have l3 := hr.l3; have l4 := hr.l4
    have m0 := hx.l0; have m1 := hx.l1; have m2 := hx.l2; have m3 := hx.l3; have m4 := hx.l4
    have a0 := hs.n0; have a1 := hs.n1; have a2 := hs.n2; have a3 := hs.n3; have a4 := hs.n4
    simp only [bornK] at m0 m1 m2 m3 m4
    exact ⟨⟨by omega, by omega, by omega, by omega, by omega, hs.b⟩, by simp [bornK, z64k], by simp [bornK]; omega, fun j hj => by simp [bornK], by simp [bornK]; omega, fun j hj => by simp [bornK], by simp [bornK, z8k], by simp [bornK]⟩
  · have e : kOf f X = noneK := if_neg h0
    rw [e] at hx ⊢
    have m0 := hx.l0; have m1 := hx.l1; have m2 := hx.l2; have m3 := hx.l3; have m4 := hx.l4
    simp only [noneK, zeroX, List.length_nil] at m0 m1 m2 m3 m4
    exact ⟨⟨by omega, by omega, by omega, by omega, by omega, by simp [noneK, zeroX, S.bytesS]⟩, by simp [noneK], by simp [noneK], fun j hj => by simp [noneK] at hj, by simp [noneK], fun j hj => by simp [noneK] at hj, by simp [noneK], by simp [noneK]⟩
theorem newS (s : SH) (X : SX) (lo : Nat) (f : Int) (hf : FaultX X f) (w : World) (h : RwX w lo s X) (hs : SmX s X) (hwf : WfU X.U) :
    Calls Tryz.prog 5 #[SetV s] w fun e w' => ∃ k, e = .returned (.tuple #[KerV k (kOf f X), .int .i64 f]) ∧ RdK w' k (kOf f X) ∧ Below w.heap.size w w' := by
  refine (kernelS s X lo f hf w h hs hwf).mono ?_
  rintro e w' ⟨k, K, rfl, hr, hK, hb⟩
  have e : K = kOf f X := by
    rcases hK with ⟨h0, rfl⟩ | ⟨h0, rfl⟩
    · exact (if_pos h0).symm
    · exact (if_neg h0).symm
  subst e
  exact ⟨k, rfl, hr, hb⟩
theorem newI (s : SH) (X : SX) (lo : Nat) (f : Int) (hf : FaultX X f) (w : World) (h : RwX w lo s X) (hs : SmX s X) (hwf : WfU X.U) (hg : Hnd w) :
    Calls Tryz.prog 7 #[SetV s] w fun e w' => ∃ k, e = .returned (.tuple #[KerV k (kOf f X), .int .i64 f]) ∧ GK w' w.heap.size k f X ∧ Below w.heap.size w w' := by
  refine (kernelI s X lo f hf w h hs hwf hg).mono ?_
  rintro e w' ⟨k, K, rfl, hK, hb⟩
  rcases hK with ⟨h0, rfl, hk⟩ | ⟨h0, rfl, hk⟩
  · exact ⟨k, by unfold kOf; rw [if_pos h0], .inl ⟨h0, hk⟩, hb⟩
  · exact ⟨k, by unfold kOf; rw [if_neg h0], .inr ⟨h0, hk⟩, hb⟩
theorem mkNArena (w : World) : Calls Tryz.prog 44 #[.agg #[.slice none 0 0], .int .i64 1] w fun e w' => e = .returned (.int .i64 1) ∧ Below w.heap.size w w' := by
  have HB : Hid (Below w.heap.size w (w.alloc (.cells #[.slice none 0 0] 38))) := (Below.refl _ _).alloc (Nat.le_refl _) _
  go_enter Tryz.func44, Tryz.ntmps44
  go_wp2_with fail
  refine (mkNil 1 _).mono ?_
  rintro e w1 ⟨rfl, rfl⟩
  go_wp2
  go_ret
  exact ⟨rfl, HB.out⟩
theorem mkNPartS (w : World) : Calls Tryz.prog 45 #[.slice none 0 0, .int .i64 1] w fun e w' => e = .returned (.int .i64 1) ∧ Below w.heap.size w w' := by
  go_enter Tryz.func45, Tryz.ntmps45
  go_wp2
  go_rounds 1
  go_ret
  exact ⟨rfl, Below.refl _ _⟩
theorem mkNLineS (w : World) : Calls Tryz.prog 46 #[.slice none 0 0, .int .i64 1] w fun e w' => e = .returned (.int .i64 1) ∧ Below w.heap.size w w' := by
  go_enter Tryz.func46, Tryz.ntmps46
  go_wp2
  go_rounds 1
  go_ret
  exact ⟨rfl, Below.refl _ _⟩
theorem mkNRegionS (w : World) : Calls Tryz.prog 39 #[.slice none 0 0, .int .i64 1] w fun e w' => e = .returned (.int .i64 1) ∧ Below w.heap.size w w' := by
  go_enter Tryz.func39, Tryz.ntmps39
  go_wp2
  go_rounds 1
  go_ret
  exact ⟨rfl, Below.refl _ _⟩
theorem mkNWindowS (w : World) : Calls Tryz.prog 40 #[.slice none 0 0, .int .i64 1] w fun e w' => e = .returned (.int .i64 1) ∧ Below w.heap.size w w' := by
  go_enter Tryz.func40, Tryz.ntmps40
  go_wp2
  go_rounds 1
  go_ret
  exact ⟨rfl, Below.refl _ _⟩
theorem mkNPortS (w : World) : Calls Tryz.prog 41 #[.slice none 0 0, .int .i64 1] w fun e w' => e = .returned (.int .i64 1) ∧ Below w.heap.size w w' := by
  go_enter Tryz.func41, Tryz.ntmps41
  go_wp2
  go_rounds 1
  go_ret
  exact ⟨rfl, Below.refl _ _⟩
theorem mkNRuleS (w : World) : Calls Tryz.prog 42 #[.slice none 0 0, .int .i64 1] w fun e w' => e = .returned (.int .i64 1) ∧ Below w.heap.size w w' := by
  go_enter Tryz.func42, Tryz.ntmps42
  go_wp2
  go_rounds 1
  go_ret
  exact ⟨rfl, Below.refl _ _⟩
theorem mkNStringS (w : World) : Calls Tryz.prog 43 #[.slice none 0 0, .int .i64 1] w fun e w' => e = .returned (.int .i64 1) ∧ Below w.heap.size w w' := by
  go_enter Tryz.func43, Tryz.ntmps43
  go_wp2
  go_rounds 1
  go_ret
  exact ⟨rfl, Below.refl _ _⟩
set_option maxRecDepth 100000 in
set_option maxHeartbeats 1000000 in
theorem mkNSetup (w : World) : Calls Tryz.prog 10 #[.agg #[.slice none 0 0, .slice none 0 0, .slice none 0 0, .slice none 0 0, .slice none 0 0], .int .i64 1] w fun e w' => e = .returned (.int .i64 1) ∧ Below w.heap.size w w' := by
  have HB : Hid (Below w.heap.size w (w.alloc (.cells #[.slice none 0 0, .slice none 0 0, .slice none 0 0, .slice none 0 0, .slice none 0 0] 35))) := (Below.refl _ _).alloc (Nat.le_refl _) _
  have HK : Hid ((w.alloc (.cells #[.slice none 0 0, .slice none 0 0, .slice none 0 0, .slice none 0 0, .slice none 0 0] 35)).heap[w.heap.size]? = some (.cells #[.slice none 0 0, .slice none 0 0, .slice none 0 0, .slice none 0 0, .slice none 0 0] 35)) := heap_new w _
  have k0 := boxO_cells HK.out
  go_enter Tryz.func10, Tryz.ntmps10
  go_wp2_with fail
  refine (mkNRegionS _).mono ?_
  rintro e w1 ⟨rfl, hb1⟩
  have HB1 : Hid (Below w.heap.size w w1) := bel_on (Nat.le_refl _) HB.out hb1
  have HK1 : Hid (w1.heap[w.heap.size]? = some (.cells #[.slice none 0 0, .slice none 0 0, .slice none 0 0, .slice none 0 0, .slice none 0 0] 35)) := row_on HK.out hb1
  clear hb1 HB HK k0
  have k1 := boxO_cells HK1.out
  go_wp2_with fail
  refine (mkNWindowS _).mono ?_
  rintro e w2 ⟨rfl, hb2⟩
  have HB2 : Hid (Below w.heap.size w w2) := bel_on (Nat.le_refl _) HB1.out hb2
  have HK2 : Hid (w2.heap[w.heap.size]? = some (.cells #[.slice none 0 0, .slice none 0 0, .slice none 0 0, .slice none 0 0, .slice none 0 0] 35)) := row_on HK1.out hb2
  clear hb2 HB1 HK1 k1
  have k2 := boxO_cells HK2.out
  go_wp2_with fail
  refine (mkNPortS _).mono ?_
  rintro e w3 ⟨rfl, hb3⟩
  have HB3 : Hid (Below w.heap.size w w3) := bel_on (Nat.le_refl _) HB2.out hb3
  have HK3 : Hid (w3.heap[w.heap.size]? = some (.cells #[.slice none 0 0, .slice none 0 0, .slice none 0 0, .slice none 0 0, .slice none 0 0] 35)) := row_on HK2.out hb3
  clear hb3 HB2 HK2 k2
  have k3 := boxO_cells HK3.out
  go_wp2_with fail
  refine (mkNRuleS _).mono ?_
  rintro e w4 ⟨rfl, hb4⟩
  have HB4 : Hid (Below w.heap.size w w4) := bel_on (Nat.le_refl _) HB3.out hb4
  have HK4 : Hid (w4.heap[w.heap.size]? = some (.cells #[.slice none 0 0, .slice none 0 0, .slice none 0 0, .slice none 0 0, .slice none 0 0] 35)) := row_on HK3.out hb4
  clear hb4 HB3 HK3 k3
  have k4 := boxO_cells HK4.out
  go_wp2_with fail
  refine (mkNStringS _).mono ?_
  rintro e w5 ⟨rfl, hb5⟩
  have HB5 : Hid (Below w.heap.size w w5) := bel_on (Nat.le_refl _) HB4.out hb5
  have HK5 : Hid (w5.heap[w.heap.size]? = some (.cells #[.slice none 0 0, .slice none 0 0, .slice none 0 0, .slice none 0 0, .slice none 0 0] 35)) := row_on HK4.out hb5
  clear hb5 HB4 HK4 k4
  have k5 := boxO_cells HK5.out
  go_wp2
  go_ret
  exact ⟨rfl, HB5.out⟩
set_option maxRecDepth 100000 in
set_option maxHeartbeats 1000000 in
theorem mkNone (w : World) : Calls Tryz.prog 11 #[KerV noneH noneK, .int .i64 1] w fun e w' => e = .returned (.int .i64 1) ∧ Below w.heap.size w w' := by
  rw [show KerV noneH noneK = .agg #[.slice none 0 0, .slice none 0 0, .slice none 0 0, .slice none 0 0, .slice none 0 0, .slice none 0 0, .slice none 0 0, .slice none 0 0, .slice none 0 0, .int .i64 0, .bool false, .slice none 0 0] from rfl]
  have HB : Hid (Below w.heap.size w (w.alloc (.cells #[.slice none 0 0, .slice none 0 0, .slice none 0 0, .slice none 0 0, .slice none 0 0, .slice none 0 0, .slice none 0 0, .slice none 0 0, .slice none 0 0, .int .i64 0, .bool false, .slice none 0 0] 43))) := (Below.refl _ _).alloc (Nat.le_refl _) _
  have HK : Hid ((w.alloc (.cells #[.slice none 0 0, .slice none 0 0, .slice none 0 0, .slice none 0 0, .slice none 0 0, .slice none 0 0, .slice none 0 0, .slice none 0 0, .slice none 0 0, .int .i64 0, .bool false, .slice none 0 0] 43)).heap[w.heap.size]? = some (.cells #[.slice none 0 0, .slice none 0 0, .slice none 0 0, .slice none 0 0, .slice none 0 0, .slice none 0 0, .slice none 0 0, .slice none 0 0, .slice none 0 0, .int .i64 0, .bool false, .slice none 0 0] 43)) := heap_new w _
  have k0 := box12_cells HK.out
  go_enter Tryz.func11, Tryz.ntmps11
  go_wp2_with fail
  refine (mkNSetup _).mono ?_
  rintro e w1 ⟨rfl, hb1⟩
  have HB1 : Hid (Below w.heap.size w w1) := bel_on (Nat.le_refl _) HB.out hb1
  have HK1 : Hid (w1.heap[w.heap.size]? = some (.cells #[.slice none 0 0, .slice none 0 0, .slice none 0 0, .slice none 0 0, .slice none 0 0, .slice none 0 0, .slice none 0 0, .slice none 0 0, .slice none 0 0, .int .i64 0, .bool false, .slice none 0 0] 43)) := row_on HK.out hb1
  clear hb1 HB HK k0
  have k1 := box12_cells HK1.out
  go_wp2_with fail
  refine (mkNArena _).mono ?_
  rintro e w2 ⟨rfl, hb2⟩
  have HB2 : Hid (Below w.heap.size w w2) := bel_on (Nat.le_refl _) HB1.out hb2
  have HK2 : Hid (w2.heap[w.heap.size]? = some (.cells #[.slice none 0 0, .slice none 0 0, .slice none 0 0, .slice none 0 0, .slice none 0 0, .slice none 0 0, .slice none 0 0, .slice none 0 0, .slice none 0 0, .int .i64 0, .bool false, .slice none 0 0] 43)) := row_on HK1.out hb2
  clear hb2 HB1 HK1 k1
  have k2 := box12_cells HK2.out
  go_wp2_with fail
  refine (mkNPartS _).mono ?_
  rintro e w3 ⟨rfl, hb3⟩
  have HB3 : Hid (Below w.heap.size w w3) := bel_on (Nat.le_refl _) HB2.out hb3
  have HK3 : Hid (w3.heap[w.heap.size]? = some (.cells #[.slice none 0 0, .slice none 0 0, .slice none 0 0, .slice none 0 0, .slice none 0 0, .slice none 0 0, .slice none 0 0, .slice none 0 0, .slice none 0 0, .int .i64 0, .bool false, .slice none 0 0] 43)) := row_on HK2.out hb3
  clear hb3 HB2 HK2 k2
  have k3 := box12_cells HK3.out
  go_wp2_with fail
  refine (mkNLineS _).mono ?_
  rintro e w4 ⟨rfl, hb4⟩
  have HB4 : Hid (Below w.heap.size w w4) := bel_on (Nat.le_refl _) HB3.out hb4
  have HK4 : Hid (w4.heap[w.heap.size]? = some (.cells #[.slice none 0 0, .slice none 0 0, .slice none 0 0, .slice none 0 0, .slice none 0 0, .slice none 0 0, .slice none 0 0, .slice none 0 0, .slice none 0 0, .int .i64 0, .bool false, .slice none 0 0] 43)) := row_on HK3.out hb4
  clear hb4 HB3 HK3 k3
  have k4 := box12_cells HK4.out
  go_wp2_with fail
  refine (mkNil 1 _).mono ?_
  rintro e w5 ⟨rfl, rfl⟩
  go_wp2_with fail
  refine (mkNilE 1 _).mono ?_
  rintro e w6 ⟨rfl, rfl⟩
  go_wp2
  go_ret
  exact ⟨rfl, HB4.out⟩
theorem hdNArena (w : World) : Calls Tryz.prog 50 #[.agg #[.slice none 0 0], .int .i64 1] w fun e w' => e = .returned (.int .i64 1) ∧ Below w.heap.size w w' := by
  have HB : Hid (Below w.heap.size w (w.alloc (.cells #[.slice none 0 0] 38))) := (Below.refl _ _).alloc (Nat.le_refl _) _
  go_enter Tryz.func50, Tryz.ntmps50
  go_wp2_with fail
  refine (hdNil 1 _).mono ?_
  rintro e w1 ⟨rfl, rfl⟩
  go_wp2
  go_ret
  exact ⟨rfl, HB.out⟩
theorem hdNPartS (w : World) : Calls Tryz.prog 51 #[.slice none 0 0, .int .i64 1] w fun e w' => e = .returned (.int .i64 1) ∧ Below w.heap.size w w' := by
  go_enter Tryz.func51, Tryz.ntmps51
  go_wp2
  go_rounds 1
  go_ret
  exact ⟨rfl, Below.refl _ _⟩
theorem hdNLineS (w : World) : Calls Tryz.prog 52 #[.slice none 0 0, .int .i64 1] w fun e w' => e = .returned (.int .i64 1) ∧ Below w.heap.size w w' := by
  go_enter Tryz.func52, Tryz.ntmps52
  go_wp2
  go_rounds 1
  go_ret
  exact ⟨rfl, Below.refl _ _⟩
theorem hdNRegionS (w : World) : Calls Tryz.prog 81 #[.slice none 0 0, .int .i64 1] w fun e w' => e = .returned (.int .i64 1) ∧ Below w.heap.size w w' := by
  go_enter Tryz.func81, Tryz.ntmps81
  go_wp2
  go_rounds 1
  go_ret
  exact ⟨rfl, Below.refl _ _⟩
theorem hdNWindowS (w : World) : Calls Tryz.prog 82 #[.slice none 0 0, .int .i64 1] w fun e w' => e = .returned (.int .i64 1) ∧ Below w.heap.size w w' := by
  go_enter Tryz.func82, Tryz.ntmps82
  go_wp2
  go_rounds 1
  go_ret
  exact ⟨rfl, Below.refl _ _⟩
theorem hdNPortS (w : World) : Calls Tryz.prog 83 #[.slice none 0 0, .int .i64 1] w fun e w' => e = .returned (.int .i64 1) ∧ Below w.heap.size w w' := by
  go_enter Tryz.func83, Tryz.ntmps83
  go_wp2
  go_rounds 1
  go_ret
  exact ⟨rfl, Below.refl _ _⟩
theorem hdNRuleS (w : World) : Calls Tryz.prog 84 #[.slice none 0 0, .int .i64 1] w fun e w' => e = .returned (.int .i64 1) ∧ Below w.heap.size w w' := by
  go_enter Tryz.func84, Tryz.ntmps84
  go_wp2
  go_rounds 1
  go_ret
  exact ⟨rfl, Below.refl _ _⟩
theorem hdNStringS (w : World) : Calls Tryz.prog 85 #[.slice none 0 0, .int .i64 1] w fun e w' => e = .returned (.int .i64 1) ∧ Below w.heap.size w w' := by
  go_enter Tryz.func85, Tryz.ntmps85
  go_wp2
  go_rounds 1
  go_ret
  exact ⟨rfl, Below.refl _ _⟩
set_option maxRecDepth 100000 in
set_option maxHeartbeats 1000000 in
theorem hdNSetup (w : World) : Calls Tryz.prog 49 #[.agg #[.slice none 0 0, .slice none 0 0, .slice none 0 0, .slice none 0 0, .slice none 0 0], .int .i64 1] w fun e w' => e = .returned (.int .i64 1) ∧ Below w.heap.size w w' := by
  have HB : Hid (Below w.heap.size w (w.alloc (.cells #[.slice none 0 0, .slice none 0 0, .slice none 0 0, .slice none 0 0, .slice none 0 0] 35))) := (Below.refl _ _).alloc (Nat.le_refl _) _
  have HK : Hid ((w.alloc (.cells #[.slice none 0 0, .slice none 0 0, .slice none 0 0, .slice none 0 0, .slice none 0 0] 35)).heap[w.heap.size]? = some (.cells #[.slice none 0 0, .slice none 0 0, .slice none 0 0, .slice none 0 0, .slice none 0 0] 35)) := heap_new w _
  have k0 := boxO_cells HK.out
  go_enter Tryz.func49, Tryz.ntmps49
  go_wp2_with fail
  refine (hdNRegionS _).mono ?_
  rintro e w1 ⟨rfl, hb1⟩
  have HB1 : Hid (Below w.heap.size w w1) := bel_on (Nat.le_refl _) HB.out hb1
  have HK1 : Hid (w1.heap[w.heap.size]? = some (.cells #[.slice none 0 0, .slice none 0 0, .slice none 0 0, .slice none 0 0, .slice none 0 0] 35)) := row_on HK.out hb1
  clear hb1 HB HK k0
  have k1 := boxO_cells HK1.out
  go_wp2_with fail
  refine (hdNWindowS _).mono ?_
  rintro e w2 ⟨rfl, hb2⟩
  have HB2 : Hid (Below w.heap.size w w2) := bel_on (Nat.le_refl _) HB1.out hb2
  have HK2 : Hid (w2.heap[w.heap.size]? = some (.cells #[.slice none 0 0, .slice none 0 0, .slice none 0 0, .slice none 0 0, .slice none 0 0] 35)) := row_on HK1.out hb2
  clear hb2 HB1 HK1 k1
  have k2 := boxO_cells HK2.out
  go_wp2_with fail
  refine (hdNPortS _).mono ?_
  rintro e w3 ⟨rfl, hb3⟩
  have HB3 : Hid (Below w.heap.size w w3) := bel_on (Nat.le_refl _) HB2.out hb3
  have HK3 : Hid (w3.heap[w.heap.size]? = some (.cells #[.slice none 0 0, .slice none 0 0, .slice none 0 0, .slice none 0 0, .slice none 0 0] 35)) := row_on HK2.out hb3
  clear hb3 HB2 HK2 k2
  have k3 := boxO_cells HK3.out
  go_wp2_with fail
  refine (hdNRuleS _).mono ?_
  rintro e w4 ⟨rfl, hb4⟩
  have HB4 : Hid (Below w.heap.size w w4) := bel_on (Nat.le_refl _) HB3.out hb4
  have HK4 : Hid (w4.heap[w.heap.size]? = some (.cells #[.slice none 0 0, .slice none 0 0, .slice none 0 0, .slice none 0 0, .slice none 0 0] 35)) := row_on HK3.out hb4
  clear hb4 HB3 HK3 k3
  have k4 := boxO_cells HK4.out
  go_wp2_with fail
  refine (hdNStringS _).mono ?_
  rintro e w5 ⟨rfl, hb5⟩
  have HB5 : Hid (Below w.heap.size w w5) := bel_on (Nat.le_refl _) HB4.out hb5
  have HK5 : Hid (w5.heap[w.heap.size]? = some (.cells #[.slice none 0 0, .slice none 0 0, .slice none 0 0, .slice none 0 0, .slice none 0 0] 35)) := row_on HK4.out hb5
  clear hb5 HB4 HK4 k4
  have k5 := boxO_cells HK5.out
  go_wp2
  go_ret
  exact ⟨rfl, HB5.out⟩
set_option maxRecDepth 100000 in
set_option maxHeartbeats 1000000 in
theorem hdNone (w : World) : Calls Tryz.prog 12 #[KerV noneH noneK, .int .i64 1] w fun e w' => e = .returned (.int .i64 1) ∧ Below w.heap.size w w' := by
  rw [show KerV noneH noneK = .agg #[.slice none 0 0, .slice none 0 0, .slice none 0 0, .slice none 0 0, .slice none 0 0, .slice none 0 0, .slice none 0 0, .slice none 0 0, .slice none 0 0, .int .i64 0, .bool false, .slice none 0 0] from rfl]
  have HB : Hid (Below w.heap.size w (w.alloc (.cells #[.slice none 0 0, .slice none 0 0, .slice none 0 0, .slice none 0 0, .slice none 0 0, .slice none 0 0, .slice none 0 0, .slice none 0 0, .slice none 0 0, .int .i64 0, .bool false, .slice none 0 0] 43))) := (Below.refl _ _).alloc (Nat.le_refl _) _
  have HK : Hid ((w.alloc (.cells #[.slice none 0 0, .slice none 0 0, .slice none 0 0, .slice none 0 0, .slice none 0 0, .slice none 0 0, .slice none 0 0, .slice none 0 0, .slice none 0 0, .int .i64 0, .bool false, .slice none 0 0] 43)).heap[w.heap.size]? = some (.cells #[.slice none 0 0, .slice none 0 0, .slice none 0 0, .slice none 0 0, .slice none 0 0, .slice none 0 0, .slice none 0 0, .slice none 0 0, .slice none 0 0, .int .i64 0, .bool false, .slice none 0 0] 43)) := heap_new w _
  have k0 := box12_cells HK.out
  go_enter Tryz.func12, Tryz.ntmps12
  go_wp2_with fail
  refine (hdNSetup _).mono ?_
  rintro e w1 ⟨rfl, hb1⟩
  have HB1 : Hid (Below w.heap.size w w1) := bel_on (Nat.le_refl _) HB.out hb1
  have HK1 : Hid (w1.heap[w.heap.size]? = some (.cells #[.slice none 0 0, .slice none 0 0, .slice none 0 0, .slice none 0 0, .slice none 0 0, .slice none 0 0, .slice none 0 0, .slice none 0 0, .slice none 0 0, .int .i64 0, .bool false, .slice none 0 0] 43)) := row_on HK.out hb1
  clear hb1 HB HK k0
  have k1 := box12_cells HK1.out
  go_wp2_with fail
  refine (hdNArena _).mono ?_
  rintro e w2 ⟨rfl, hb2⟩
  have HB2 : Hid (Below w.heap.size w w2) := bel_on (Nat.le_refl _) HB1.out hb2
  have HK2 : Hid (w2.heap[w.heap.size]? = some (.cells #[.slice none 0 0, .slice none 0 0, .slice none 0 0, .slice none 0 0, .slice none 0 0, .slice none 0 0, .slice none 0 0, .slice none 0 0, .slice none 0 0, .int .i64 0, .bool false, .slice none 0 0] 43)) := row_on HK1.out hb2
  clear hb2 HB1 HK1 k1
  have k2 := box12_cells HK2.out
  go_wp2_with fail
  refine (hdNPartS _).mono ?_
  rintro e w3 ⟨rfl, hb3⟩
  have HB3 : Hid (Below w.heap.size w w3) := bel_on (Nat.le_refl _) HB2.out hb3
  have HK3 : Hid (w3.heap[w.heap.size]? = some (.cells #[.slice none 0 0, .slice none 0 0, .slice none 0 0, .slice none 0 0, .slice none 0 0, .slice none 0 0, .slice none 0 0, .slice none 0 0, .slice none 0 0, .int .i64 0, .bool false, .slice none 0 0] 43)) := row_on HK2.out hb3
  clear hb3 HB2 HK2 k2
  have k3 := box12_cells HK3.out
  go_wp2_with fail
  refine (hdNLineS _).mono ?_
  rintro e w4 ⟨rfl, hb4⟩
  have HB4 : Hid (Below w.heap.size w w4) := bel_on (Nat.le_refl _) HB3.out hb4
  have HK4 : Hid (w4.heap[w.heap.size]? = some (.cells #[.slice none 0 0, .slice none 0 0, .slice none 0 0, .slice none 0 0, .slice none 0 0, .slice none 0 0, .slice none 0 0, .slice none 0 0, .slice none 0 0, .int .i64 0, .bool false, .slice none 0 0] 43)) := row_on HK3.out hb4
  clear hb4 HB3 HK3 k3
  have k4 := box12_cells HK4.out
  go_wp2_with fail
  refine (hdNil 1 _).mono ?_
  rintro e w5 ⟨rfl, rfl⟩
  go_wp2_with fail
  refine (hdNilE 1 _).mono ?_
  rintro e w6 ⟨rfl, rfl⟩
  go_wp2
  go_ret
  exact ⟨rfl, HB4.out⟩
theorem markG (k : KH) (f : Int) (X : SX) (lo : Nat) (hf : FaultX X f) (hbs : S.bytesS X.S ≤ 1048576) (w : World) (h : GK w lo k f X) (hB : lo ≤ w.heap.size) :
    Calls Tryz.prog 11 #[KerV k (kOf f X), .int .i64 1] w fun e w' => ∃ r : Nat, e = .returned (.int .i64 r) ∧ GM w' lo k f X r ∧ r ≤ 100000 ∧ Below lo w w' ∧ (∀ (g : Nat) (cs : Array Value), w.heap[g]? = some (.cells cs 43) → w'.heap[g]? = some (.cells cs 43)) := by
  rcases h with ⟨h0, s, gA, gP, gL, gO, rfl, hb, hne⟩ | ⟨h0, rfl⟩
  · have hl := hb.x.len
    have hfew := few_f hf h0 hbs
    rw [show kOf f X = bornK X from if_pos h0]
    refine (mkBorn s X lo gA gP gL gO w hb hne hfew hB).mono ?_
    rintro e w' ⟨rfl, hm, hbl, hkk⟩
    refine ⟨_, rfl, .inl ⟨h0, s, gA, gP, gL, gO, rfl, hm, hl, rfl⟩, ?_, hbl, hkk⟩
    obtain ⟨f0, f1, f2, f3, f4, _⟩ := hfew
    unfold mrkN mkN
    omega
  · rw [show kOf f X = noneK from if_neg h0]
    refine (mkNone w).mono ?_
    rintro e w' ⟨rfl, hbl⟩
    exact ⟨1, rfl, .inr ⟨h0, rfl, rfl⟩, by decide, hbl.mono hB, fun g cs h => row_on h hbl⟩
theorem heldG (k : KH) (f : Int) (X : SX) (lo r : Nat) (hf : FaultX X f) (hbs : S.bytesS X.S ≤ 1048576) (w : World) (h : GM w lo k f X r) :
    Calls Tryz.prog 12 #[KerV k (kOf f X), .int .i64 1] w fun e w' => e = .returned (.int .i64 r) ∧ Below w.heap.size w w' := by
  rcases h with ⟨h0, s, gA, gP, gL, gO, rfl, hb, hl, rfl⟩ | ⟨h0, rfl, rfl⟩
  · rw [show kOf f X = bornK X from if_pos h0]
    exact hdBorn s X lo gA gP gL gO w hb hl (few_f hf h0 hbs)
  · rw [show kOf f X = noneK from if_neg h0]
    exact hdNone w
end Go.Proofs.YtphijlknefgkiaaGreatDoor
