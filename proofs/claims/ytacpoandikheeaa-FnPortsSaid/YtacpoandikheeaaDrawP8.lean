/-
  Drawn ports: the contracts of the specification's draws.
-/
import Derived.Test.YtacpoandikheeaaLine
import Derived.Test.YtacpoandikheeaaPort
import Derived.Test.YtacpoandikheeaaDraw
import Derived.Test.YtacpoandikheeaaPlaces
namespace Go.Proofs.Ytacpoandikheeaa
open Go.RowKit Go.PlainAid
set_option linter.unusedVariables false

theorem row_drawn {W W' : World} {k C : Nat} {o : Obj} (h : W.heap[k]? = some o) (hg : W.grownBy W' (some C)) (hk : k ≠ C) : W'.heap[k]? = some o :=
  (hg.block k (row_lt h) (fun e => by cases e; exact hk rfl)).trans h

/-- what is appended to new memory, behind a draw -/
theorem drawn_grown {w W W' : World} {C B : Nat} {a : Option Addr} {len cap : Nat} {v : Value} (h : Drawn w W C B a len cap) (hg : W.grownBy W' v.ownBlock) (hv : ∀ g, v.ownBlock = some g → w.heap.size ≤ g) (hC : C < w.heap.size) (hB : B ≤ w.heap.size) : Drawn w W' C B a len cap :=
  ⟨cur_new (B := B) h.1 hg (fun g e => by have := hv g e; omega), code_below h.2.1 ((Below.refl _ _).grown hg (Nat.le_trans hB h.2.2.size) (fun g e => by have := hv g e; omega)), grown_new h.2.2 hg hv⟩

theorem drawn_drew {w W : World} {C B : Nat} {a : Option Addr} {len cap : Nat} (h : Drawn w W C B a len cap) : Drawn w W.drew C B a len cap :=
  ⟨h.1, h.2.1, ⟨h.2.2.os, h.2.2.tape, h.2.2.output, h.2.2.size, h.2.2.block⟩⟩
theorem drawn_put {w W : World} {C B : Nat} {a : Option Addr} {len cap : Nat} (h : Drawn w W C B a len cap) {k : Nat} (i : Nat) (v : Value) (hk : w.heap.size ≤ k) (hC : C < w.heap.size) (hB : B ≤ C) : Drawn w (W.setCell ⟨k, i, none⟩ v) C B a len cap := by
  obtain ⟨⟨j, x, hj, hc⟩, hcode, hg⟩ := h
  refine ⟨⟨j, x, hj, ?_⟩, code_below hcode ((Below.refl _ _).setCell (by show _ ≤ k; omega) v), ?_⟩
  · unfold CurAt
    rw [Below.heap_setCell _ _ _ _ (by show C ≠ k; omega)]
    exact hc
  · have hs : (W.setCell ⟨k, i, none⟩ v).heap.size = W.heap.size := by simp
    exact ⟨hg.os, hg.tape, hg.output, by rw [hs]; exact hg.size, fun m hm hne => (Below.heap_setCell _ _ _ _ (show m ≠ k by omega)).trans (hg.block m hm hne)⟩

theorem onceR (C B : Nat) (a : Option Addr) (len cap : Nat) (n : Int) (h0 : 0 < n) (h1 : n ≤ 256) (w : World) (hC : Cur w C a len cap) (hB : B ≤ C) (hcode : CodeOk w B a len) :
    Calls Try.prog 47 #[.pointer (some ⟨C, 0, none⟩), .int .i64 n] w fun e w' => ∃ b : Bool, e = .returned (.bool b) ∧ Drawn w w' C B a len cap := by
  have HCu : Hid (Cur w C a len cap) := hC
  have HCo : Hid (CodeOk w B a len) := hcode
  clear hC hcode
  go_enter Try.func47, Try.ntmps47
  go_wp2_with fail
  refine (below28 C B a len cap n h0 (by omega) _ HCu.out hB HCo.out).mono ?_
  rintro e w1 ⟨x, rfl, x0, x1, hD⟩
  have HD : Hid (Drawn w w1 C B a len cap) := hD
  clear hD HCu HCo
  go_wp2
  go_ret
  exact ⟨_, rfl, HD.out⟩

theorem laid_ints1 (w : World) (o : Obj) (l : List Int) (j : Nat) (hj : j < l.length) : ((w.alloc o).alloc (.cells (l.map (Value.int .i64)).toArray 3)).cell? ⟨w.heap.size + 1, j, none⟩ = some (.int .i64 l[j]) := by
  have h := laid_ints (w.alloc o) l j hj
  have e : (w.alloc o).heap.size = w.heap.size + 1 := by simp
  rw [e] at h
  exact h


/-- a port that is being drawn -/
def DP (w W : World) (C B : Nat) (a : Option Addr) (len cap : Nat) (kP : Nat) (k f t m fr : Int) : Prop := Drawn w W C B a len cap ∧ W.heap[w.heap.size]? = some (.cells #[.int .i64 0, .int .i64 0, .int .i64 0, .int .i64 0, .int .i64 0] 33) ∧ W.heap[kP]? = some (.cells #[.int .i64 k, .int .i64 f, .int .i64 t, .int .i64 m, .int .i64 fr] 33) ∧ C < w.heap.size ∧ B ≤ C ∧ w.heap.size < kP
theorem DP.on {w W W' : World} {C B : Nat} {a : Option Addr} {len cap kP : Nat} {k f t m fr : Int} (h : DP w W C B a len cap kP k f t m fr) (hD : Drawn W W' C B a len cap) : DP w W' C B a len cap kP k f t m fr := by
  obtain ⟨h1, h2, h3, h4, h5, h6⟩ := h
  exact ⟨drawn_trans h1 hD, row_drawn h2 hD.2.2 (by omega), row_drawn h3 hD.2.2 (by omega), h4, h5, h6⟩
theorem DP.al {w W : World} {C B : Nat} {a : Option Addr} {len cap kP : Nat} {k f t m fr : Int} (h : DP w W C B a len cap kP k f t m fr) (o : Obj) : DP w (W.alloc o) C B a len cap kP k f t m fr := by
  obtain ⟨h1, h2, h3, h4, h5, h6⟩ := h
  have := row_lt h3
  exact ⟨drawn_alloc h1 (by omega) o, row_on h2 (al1_b W o), row_on h3 (al1_b W o), h4, h5, h6⟩
theorem DP.put0 {w W : World} {C B : Nat} {a : Option Addr} {len cap kP : Nat} {k f t m fr : Int} (h : DP w W C B a len cap kP k f t m fr) (z : Int) : DP w (W.setCell ⟨kP, 0, none⟩ (.int .i64 z)) C B a len cap kP z f t m fr := by
  obtain ⟨h1, h2, h3, h4, h5, h6⟩ := h
  exact ⟨drawn_put h1 _ _ (by omega) h4 h5, set_other h2 (by omega), set1_row h3, h4, h5, h6⟩
theorem DP.put1 {w W : World} {C B : Nat} {a : Option Addr} {len cap kP : Nat} {k f t m fr : Int} (h : DP w W C B a len cap kP k f t m fr) (z : Int) : DP w (W.setCell ⟨kP, 1, none⟩ (.int .i64 z)) C B a len cap kP k z t m fr := by
  obtain ⟨h1, h2, h3, h4, h5, h6⟩ := h
  exact ⟨drawn_put h1 _ _ (by omega) h4 h5, set_other h2 (by omega), set1_row h3, h4, h5, h6⟩
theorem DP.put2 {w W : World} {C B : Nat} {a : Option Addr} {len cap kP : Nat} {k f t m fr : Int} (h : DP w W C B a len cap kP k f t m fr) (z : Int) : DP w (W.setCell ⟨kP, 2, none⟩ (.int .i64 z)) C B a len cap kP k f z m fr := by
  obtain ⟨h1, h2, h3, h4, h5, h6⟩ := h
  exact ⟨drawn_put h1 _ _ (by omega) h4 h5, set_other h2 (by omega), set1_row h3, h4, h5, h6⟩
theorem DP.put3 {w W : World} {C B : Nat} {a : Option Addr} {len cap kP : Nat} {k f t m fr : Int} (h : DP w W C B a len cap kP k f t m fr) (z : Int) : DP w (W.setCell ⟨kP, 3, none⟩ (.int .i64 z)) C B a len cap kP k f t z fr := by
  obtain ⟨h1, h2, h3, h4, h5, h6⟩ := h
  exact ⟨drawn_put h1 _ _ (by omega) h4 h5, set_other h2 (by omega), set1_row h3, h4, h5, h6⟩
theorem DP.put4 {w W : World} {C B : Nat} {a : Option Addr} {len cap kP : Nat} {k f t m fr : Int} (h : DP w W C B a len cap kP k f t m fr) (z : Int) : DP w (W.setCell ⟨kP, 4, none⟩ (.int .i64 z)) C B a len cap kP k f t m z := by
  obtain ⟨h1, h2, h3, h4, h5, h6⟩ := h
  exact ⟨drawn_put h1 _ _ (by omega) h4 h5, set_other h2 (by omega), set1_row h3, h4, h5, h6⟩
theorem DP.done {w W : World} {C B : Nat} {a : Option Addr} {len cap kP : Nat} {k f t m fr : Int} (h : DP w W C B a len cap kP k f t m fr) : Drawn w (((((W.setCell ⟨w.heap.size, 0, none⟩ (.int .i64 k)).setCell ⟨w.heap.size, 1, none⟩ (.int .i64 f)).setCell ⟨w.heap.size, 2, none⟩ (.int .i64 t)).setCell ⟨w.heap.size, 3, none⟩ (.int .i64 m)).setCell ⟨w.heap.size, 4, none⟩ (.int .i64 fr)) C B a len cap := by
  obtain ⟨h1, h2, h3, h4, h5, h6⟩ := h
  exact drawn_put (drawn_put (drawn_put (drawn_put (drawn_put h1 0 _ (Nat.le_refl _) h4 h5) 1 _ (Nat.le_refl _) h4 h5) 2 _ (Nat.le_refl _) h4 h5) 3 _ (Nat.le_refl _) h4 h5) 4 _ (Nat.le_refl _) h4 h5

set_option maxRecDepth 100000 in
set_option maxHeartbeats 4000000 in
theorem portD (C B : Nat) (a : Option Addr) (len cap : Nat) (w : World) (hC : Cur w C a len cap) (hB : B ≤ C) (hcode : CodeOk w B a len) :
    Calls Try.prog 45 #[.pointer (some ⟨C, 0, none⟩)] w fun e w' => ∃ k f t m fr : Int, e = .returned (.agg #[.int .i64 k, .int .i64 f, .int .i64 t, .int .i64 m, .int .i64 fr]) ∧ Drawn w w' C B a len cap := by
  have hlt := cur_lt hC
  have HD0 : Hid (Drawn w (w.alloc (.cells #[.int .i64 0, .int .i64 0, .int .i64 0, .int .i64 0, .int .i64 0] 33)) C B a len cap) := drawn_alloc ⟨hC, hcode, World.grownBy.refl _ _⟩ (by omega) _
  have HZ0 : Hid ((w.alloc (.cells #[.int .i64 0, .int .i64 0, .int .i64 0, .int .i64 0, .int .i64 0] 33)).heap[w.heap.size]? = some (.cells #[.int .i64 0, .int .i64 0, .int .i64 0, .int .i64 0, .int .i64 0] 33)) := heap_new w _
  clear hC hcode
  go_enter Try.func45, Try.ntmps45
  go_wp2_with fail
  refine (below28 C B a len cap 3 (by omega) (by omega) _ HD0.out.1 hB HD0.out.2.1).mono ?_
  rintro e w1 ⟨x, rfl, x0, x1, hD⟩
  have HD1 : Hid (Drawn w w1 C B a len cap) := drawn_trans HD0.out hD
  have HZ1 : Hid (w1.heap[w.heap.size]? = some (.cells #[.int .i64 0, .int .i64 0, .int .i64 0, .int .i64 0, .int .i64 0] 33)) := row_drawn HZ0.out hD.2.2 (by omega)
  clear hD HD0 HZ0
  go_wp2_with fail
  refine (below28 C B a len cap 3 (by omega) (by omega) _ HD1.out.1 hB HD1.out.2.1).mono ?_
  rintro e w2 ⟨y, rfl, y0, y1, hD⟩
  have HD2 : Hid (Drawn w w2 C B a len cap) := drawn_trans HD1.out hD
  have HZ2 : Hid (w2.heap[w.heap.size]? = some (.cells #[.int .i64 0, .int .i64 0, .int .i64 0, .int .i64 0, .int .i64 0] 33)) := row_drawn HZ1.out hD.2.2 (by omega)
  clear hD HD1 HZ1
  go_wp2_with fail
  refine (below28 C B a len cap 3 (by omega) (by omega) _ HD2.out.1 hB HD2.out.2.1).mono ?_
  rintro e w3 ⟨z, rfl, z0, z1, hD⟩
  have HD3 : Hid (Drawn w w3 C B a len cap) := drawn_trans HD2.out hD
  have HZ3 : Hid (w3.heap[w.heap.size]? = some (.cells #[.int .i64 0, .int .i64 0, .int .i64 0, .int .i64 0, .int .i64 0] 33)) := row_drawn HZ2.out hD.2.2 (by omega)
  clear hD HD2 HZ2
  obtain ⟨F, hF⟩ : ∃ F, 1 + x = F := ⟨_, rfl⟩
  obtain ⟨T, hT⟩ : ∃ T, 1 + y = T := ⟨_, rfl⟩
  obtain ⟨Mm, hMm⟩ : ∃ Mm, 1 + z = Mm := ⟨_, rfl⟩
  have hF1 : 1 ≤ F ∧ F ≤ 3 := by omega
  have hs3 := row_lt HZ3.out
  have HJA : Hid (∀ T, DP w (w3.alloc (.cells #[.int .i64 1, .int .i64 F, .int .i64 T, .int .i64 Mm, .int .i64 0] 33)) C B a len cap w3.heap.size 1 F T Mm 0) := fun T =>
    ⟨drawn_alloc HD3.out (by omega) _, row_on HZ3.out (al1_b w3 _), heap_new w3 _, hlt, hB, by omega⟩
  clear HD3 HZ3 hs3
  by_cases hFT : F = T
  · subst hFT
    have hr2 : F.tmod 3 = F % 3 := Int.tmod_eq_emod_of_nonneg (by omega)
    obtain ⟨T, hT2⟩ : ∃ T, 1 + F % 3 = T := ⟨_, rfl⟩
    have HJ : Hid (DP _ _ _ _ _ _ _ _ _ _ _ _ _ ) := HJA.out T
    clear HJA
    go_wp2_with fail
    refine (onceR C B a len cap 3 (by omega) (by omega) _ HJ.out.1.1 hB HJ.out.1.2.1).mono ?_
    rintro e w7 ⟨b, rfl, hD⟩
    have HK : Hid (DP _ _ _ _ _ _ _ _ _ _ _ _ _ ) := HJ.out.on hD
    clear hD HJ
    cases b with
    | false =>
      have kk := box5_cells HK.out.2.2.1
      have kz := box5_cells HK.out.2.1
      have HF : Hid (Drawn _ _ _ _ _ _ _) := HK.out.done
      clear HK
      go_wp2
      refine bodyPost_ret (v := .agg #[.int .i64 1, .int .i64 F, .int .i64 T, .int .i64 Mm, .int .i64 0]) (by simp [results, Try.results45, go_sem, kz]) rfl ⟨1, F, T, Mm, 0, rfl, HF.out⟩
    | true =>
      have k7 := box5_cells HK.out.2.2.1
      have HK1 : Hid (DP _ _ _ _ _ _ _ _ _ _ _ _ _ ) := HK.out.put0 2
      have k8 := box5_cells HK1.out.2.2.1
      have HK2 : Hid (DP _ _ _ _ _ _ _ _ _ _ _ _ _ ) := HK1.out.put3 1
      have k9 := box5_cells HK2.out.2.2.1
      clear HK HK1
      go_wp2_with fail
      clear k7 k8 k9
      refine (below28 C B a len cap 8 (by omega) (by omega) _ HK2.out.1.1 hB HK2.out.1.2.1).mono ?_
      rintro e w8 ⟨z, rfl, z0, z1, hD⟩
      have h8 := HK2.out.on hD
      have k8 := box5_cells h8.2.2.1
      have HK3 : Hid (DP _ _ _ _ _ _ _ _ _ _ _ _ _ ) := h8.put4 (1 + z)
      clear hD HK2 h8
      have kk := box5_cells HK3.out.2.2.1
      have kz := box5_cells HK3.out.2.1
      have HF : Hid (Drawn _ _ _ _ _ _ _) := HK3.out.done
      clear HK3
      go_wp2
      refine bodyPost_ret (v := .agg #[.int .i64 2, .int .i64 F, .int .i64 T, .int .i64 1, .int .i64 (1 + z)]) (by simp [results, Try.results45, go_sem, kz]) rfl ⟨2, F, T, 1, (1 + z), rfl, HF.out⟩
  · have hFT2 : (F == T) = false := by simpa using hFT
    have HJ : Hid (DP _ _ _ _ _ _ _ _ _ _ _ _ _ ) := HJA.out T
    clear HJA
    go_wp2_with fail
    refine (onceR C B a len cap 3 (by omega) (by omega) _ HJ.out.1.1 hB HJ.out.1.2.1).mono ?_
    rintro e w7 ⟨b, rfl, hD⟩
    have HK : Hid (DP _ _ _ _ _ _ _ _ _ _ _ _ _ ) := HJ.out.on hD
    clear hD HJ
    cases b with
    | false =>
      have kk := box5_cells HK.out.2.2.1
      have kz := box5_cells HK.out.2.1
      have HF : Hid (Drawn _ _ _ _ _ _ _) := HK.out.done
      clear HK
      go_wp2
      refine bodyPost_ret (v := .agg #[.int .i64 1, .int .i64 F, .int .i64 T, .int .i64 Mm, .int .i64 0]) (by simp [results, Try.results45, go_sem, kz]) rfl ⟨1, F, T, Mm, 0, rfl, HF.out⟩
    | true =>
      have k7 := box5_cells HK.out.2.2.1
      have HK1 : Hid (DP _ _ _ _ _ _ _ _ _ _ _ _ _ ) := HK.out.put0 2
      have k8 := box5_cells HK1.out.2.2.1
      have HK2 : Hid (DP _ _ _ _ _ _ _ _ _ _ _ _ _ ) := HK1.out.put3 1
      have k9 := box5_cells HK2.out.2.2.1
      clear HK HK1
      go_wp2_with fail
      clear k7 k8 k9
      refine (below28 C B a len cap 8 (by omega) (by omega) _ HK2.out.1.1 hB HK2.out.1.2.1).mono ?_
      rintro e w8 ⟨z, rfl, z0, z1, hD⟩
      have h8 := HK2.out.on hD
      have k8 := box5_cells h8.2.2.1
      have HK3 : Hid (DP _ _ _ _ _ _ _ _ _ _ _ _ _ ) := h8.put4 (1 + z)
      clear hD HK2 h8
      have kk := box5_cells HK3.out.2.2.1
      have kz := box5_cells HK3.out.2.1
      have HF : Hid (Drawn _ _ _ _ _ _ _) := HK3.out.done
      clear HK3
      go_wp2
      refine bodyPost_ret (v := .agg #[.int .i64 2, .int .i64 F, .int .i64 T, .int .i64 1, .int .i64 (1 + z)]) (by simp [results, Try.results45, go_sem, kz]) rfl ⟨2, F, T, 1, (1 + z), rfl, HF.out⟩

set_option maxRecDepth 100000 in
set_option maxHeartbeats 4000000 in
theorem anyD (C B : Nat) (a : Option Addr) (len cap : Nat) (w : World) (hC : Cur w C a len cap) (hB : B ≤ C) (hcode : CodeOk w B a len) :
    Calls Try.prog 37 #[.pointer (some ⟨C, 0, none⟩)] w fun e w' => ∃ k f t m fr : Int, e = .returned (.agg #[.int .i64 k, .int .i64 f, .int .i64 t, .int .i64 m, .int .i64 fr]) ∧ Drawn w w' C B a len cap := by
  have hlt := cur_lt hC
  have HD0 : Hid (Drawn w (w.alloc (.cells #[.int .i64 0, .int .i64 0, .int .i64 0, .int .i64 0, .int .i64 0] 33)) C B a len cap) := drawn_alloc ⟨hC, hcode, World.grownBy.refl _ _⟩ (by omega) _
  have HZ0 : Hid ((w.alloc (.cells #[.int .i64 0, .int .i64 0, .int .i64 0, .int .i64 0, .int .i64 0] 33)).heap[w.heap.size]? = some (.cells #[.int .i64 0, .int .i64 0, .int .i64 0, .int .i64 0, .int .i64 0] 33)) := heap_new w _
  clear hC hcode
  go_enter Try.func37, Try.ntmps37
  go_wp2_with fail
  refine (portD C B a len cap _ HD0.out.1 hB HD0.out.2.1).mono ?_
  rintro e w1 ⟨k, f, t, m, fr, rfl, hD⟩
  have hs1 := row_lt (row_drawn HZ0.out hD.2.2 (by omega))
  have HJ : Hid (DP w (w1.alloc (.cells #[.int .i64 k, .int .i64 f, .int .i64 t, .int .i64 m, .int .i64 fr] 33)) C B a len cap w1.heap.size k f t m fr) :=
    ⟨drawn_alloc (drawn_trans HD0.out hD) (by omega) _, row_on (row_drawn HZ0.out hD.2.2 (by omega)) (al1_b w1 _), heap_new w1 _, hlt, hB, by omega⟩
  clear HD0 HZ0 hD
  go_wp2_with fail
  refine (below28 C B a len cap 16 (by omega) (by omega) _ HJ.out.1.1 hB HJ.out.1.2.1).mono ?_
  rintro e w2 ⟨s, rfl, s0, s1, hD⟩
  have HK : Hid (DP _ _ _ _ _ _ _ _ _ _ _ _ _ ) := HJ.out.on hD
  have hkP := row_lt HK.out.2.2.1
  have hCk := HK.out.2.2.2.2.2
  clear hD HJ
  have ways : s = 0 ∨ s = 1 ∨ s = 2 ∨ s = 3 ∨ ((s == 0) = false ∧ (s == 1) = false ∧ (s == 2) = false ∧ (s == 3) = false) := by
    by_cases h0 : s = 0
    · exact .inl h0
    · by_cases h1 : s = 1
      · exact .inr (.inl h1)
      · by_cases h2 : s = 2
        · exact .inr (.inr (.inl h2))
        · by_cases h3 : s = 3
          · exact .inr (.inr (.inr (.inl h3)))
          · exact .inr (.inr (.inr (.inr ⟨by simpa using h0, by simpa using h1, by simpa using h2, by simpa using h3⟩)))
  rcases ways with rfl | rfl | rfl | rfl | ⟨g0, g1, g2, g3⟩
  · go_wp2_with fail
    refine (below28 C B a len cap 4 (by omega) (by omega) _ HK.out.1.1 hB HK.out.1.2.1).mono ?_
    rintro e w3 ⟨z, rfl, z0, z1, hD⟩
    have h3 := HK.out.on hD
    have k3 := box5_cells h3.2.2.1
    have HK3 : Hid (DP _ _ _ _ _ _ _ _ _ _ _ _ _ ) := h3.put0 z
    clear hD HK h3
    have kk := box5_cells HK3.out.2.2.1
    have kz := box5_cells HK3.out.2.1
    have HF : Hid (Drawn _ _ _ _ _ _ _) := HK3.out.done
    clear HK3
    go_wp2
    refine bodyPost_ret (v := .agg #[.int .i64 z, .int .i64 f, .int .i64 t, .int .i64 m, .int .i64 fr]) (by simp [results, Try.results37, go_sem, kz]) rfl ⟨z, f, t, m, fr, rfl, HF.out⟩
  · have HLI : Hid (∀ j (hj : j < ([0, 4, 5] : List Int).length), (w2.alloc (.cells (([0, 4, 5] : List Int).map (Value.int .i64)).toArray 3)).cell? ⟨w2.heap.size, j, none⟩ = some (.int .i64 ([0, 4, 5] : List Int)[j])) := laid_ints w2 [0, 4, 5]
    have HKa : Hid (DP _ _ _ _ _ _ _ _ _ _ _ _ _ ) := HK.out.al (.cells (([0, 4, 5] : List Int).map (Value.int .i64)).toArray 3)
    clear HK
    go_wp2_with fail
    refine (pick26' C B a len cap [0, 4, 5] 3 w2.heap.size 3 rfl (by omega) (by omega) _ HKa.out.1.1 hB HKa.out.1.2.1 (by omega) (by simp) HLI.out).mono ?_
    rintro e w3 ⟨z, rfl, _, hD⟩
    have h3 := HKa.out.on hD
    have k3 := box5_cells h3.2.2.1
    have HK3 : Hid (DP _ _ _ _ _ _ _ _ _ _ _ _ _ ) := h3.put1 z
    clear hD HKa h3 HLI
    have kk := box5_cells HK3.out.2.2.1
    have kz := box5_cells HK3.out.2.1
    have HF : Hid (Drawn _ _ _ _ _ _ _) := HK3.out.done
    clear HK3
    go_wp2
    refine bodyPost_ret (v := .agg #[.int .i64 k, .int .i64 z, .int .i64 t, .int .i64 m, .int .i64 fr]) (by simp [results, Try.results37, go_sem, kz]) rfl ⟨k, z, t, m, fr, rfl, HF.out⟩
  · have HLI : Hid (∀ j (hj : j < ([0, 6, 7] : List Int).length), (w2.alloc (.cells (([0, 6, 7] : List Int).map (Value.int .i64)).toArray 3)).cell? ⟨w2.heap.size, j, none⟩ = some (.int .i64 ([0, 6, 7] : List Int)[j])) := laid_ints w2 [0, 6, 7]
    have HKa : Hid (DP _ _ _ _ _ _ _ _ _ _ _ _ _ ) := HK.out.al (.cells (([0, 6, 7] : List Int).map (Value.int .i64)).toArray 3)
    clear HK
    go_wp2_with fail
    refine (pick26' C B a len cap [0, 6, 7] 3 w2.heap.size 3 rfl (by omega) (by omega) _ HKa.out.1.1 hB HKa.out.1.2.1 (by omega) (by simp) HLI.out).mono ?_
    rintro e w3 ⟨z, rfl, _, hD⟩
    have h3 := HKa.out.on hD
    have k3 := box5_cells h3.2.2.1
    have HK3 : Hid (DP _ _ _ _ _ _ _ _ _ _ _ _ _ ) := h3.put3 z
    clear hD HKa h3 HLI
    have kk := box5_cells HK3.out.2.2.1
    have kz := box5_cells HK3.out.2.1
    have HF : Hid (Drawn _ _ _ _ _ _ _) := HK3.out.done
    clear HK3
    go_wp2
    refine bodyPost_ret (v := .agg #[.int .i64 k, .int .i64 f, .int .i64 t, .int .i64 z, .int .i64 fr]) (by simp [results, Try.results37, go_sem, kz]) rfl ⟨k, f, t, z, fr, rfl, HF.out⟩
  · have HLI : Hid (∀ j (hj : j < ([0, 100, 101] : List Int).length), (w2.alloc (.cells (([0, 100, 101] : List Int).map (Value.int .i64)).toArray 3)).cell? ⟨w2.heap.size, j, none⟩ = some (.int .i64 ([0, 100, 101] : List Int)[j])) := laid_ints w2 [0, 100, 101]
    have HKa : Hid (DP _ _ _ _ _ _ _ _ _ _ _ _ _ ) := HK.out.al (.cells (([0, 100, 101] : List Int).map (Value.int .i64)).toArray 3)
    clear HK
    go_wp2_with fail
    refine (pick26' C B a len cap [0, 100, 101] 3 w2.heap.size 3 rfl (by omega) (by omega) _ HKa.out.1.1 hB HKa.out.1.2.1 (by omega) (by simp) HLI.out).mono ?_
    rintro e w3 ⟨z, rfl, _, hD⟩
    have h3 := HKa.out.on hD
    have k3 := box5_cells h3.2.2.1
    have HK3 : Hid (DP _ _ _ _ _ _ _ _ _ _ _ _ _ ) := h3.put4 z
    clear hD HKa h3 HLI
    have kk := box5_cells HK3.out.2.2.1
    have kz := box5_cells HK3.out.2.1
    have HF : Hid (Drawn _ _ _ _ _ _ _) := HK3.out.done
    clear HK3
    go_wp2
    refine bodyPost_ret (v := .agg #[.int .i64 k, .int .i64 f, .int .i64 t, .int .i64 m, .int .i64 z]) (by simp [results, Try.results37, go_sem, kz]) rfl ⟨k, f, t, m, z, rfl, HF.out⟩
  · skip
    have kk := box5_cells HK.out.2.2.1
    have kz := box5_cells HK.out.2.1
    have HF : Hid (Drawn _ _ _ _ _ _ _) := HK.out.done
    clear HK
    go_wp2
    refine bodyPost_ret (v := .agg #[.int .i64 k, .int .i64 f, .int .i64 t, .int .i64 m, .int .i64 fr]) (by simp [results, Try.results37, go_sem, kz]) rfl ⟨k, f, t, m, fr, rfl, HF.out⟩
end Go.Proofs.Ytacpoandikheeaa
