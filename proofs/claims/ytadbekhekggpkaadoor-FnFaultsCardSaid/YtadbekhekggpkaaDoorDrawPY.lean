/-
  Drawn ports: the contracts of the specification's draws.
-/
import Derived.Test.YtadbekhekggpkaaDoorLineP
import Derived.Test.YtadbekhekggpkaaDoorPortP
import Derived.Test.YtadbekhekggpkaaDoorDraw
import Derived.Test.YtadbekhekggpkaaDoorPlaces
namespace Go.Proofs.YtadbekhekggpkaaDoor.P
open Go.RowKit Go.PlainAid
set_option linter.unusedVariables false

theorem row_drawn {W W' : World} {k C : Nat} {o : Obj} (h : W.heap[k]? = some o) (hg : W.grownBy W' (some C)) (hk : k ≠ C) : W'.heap[k]? = some o :=
  (hg.block k (row_lt h) (fun e => by cases e; exact hk rfl)).trans h

/-- what is appended to new memory, behind a draw -/
theorem drawn_grown {w W W' : World} {C B : Nat} {a : Option Addr} {len cap : Nat} {v : Value} (h : Drawn w W C B a len cap) (hg : W.grownBy W' v.ownBlock) (hv : ∀ g, v.ownBlock = some g → w.heap.size ≤ g) (hC : C < w.heap.size) (hB : B ≤ w.heap.size) : Drawn w W' C B a len cap :=
  ⟨cur_new (B := B) h.1 hg (fun g e => by have := hv g e; omega), code_below h.2.1 ((Below.refl _ _).grown hg (Nat.le_trans hB h.2.2.size) (fun g e => by have := hv g e; omega)), grown_new h.2.2 hg hv⟩

theorem drawn_drew {w W : World} {C B : Nat} {a : Option Addr} {len cap : Nat} (h : Drawn w W C B a len cap) : Drawn w W.drew C B a len cap :=
  ⟨h.1, h.2.1, ⟨h.2.2.os, h.2.2.tape, h.2.2.output, h.2.2.size, h.2.2.block⟩⟩
theorem drawn_put {w W : World} {C B : Nat} {a : Option Addr} {len cap : Nat} (h : Drawn w W C B a len cap) {k : Nat} (i : Nat) (v : Value) (hk : w.heap.size ≤ k) (hC : C < w.heap.size) (hB : B ≤ C) : Drawn w (W.setCell ⟨k, i, none⟩ v) C B a len cap := by
  obtain ⟨⟨j, x, hj, hc⟩, hcode, hg⟩ := h
  refine ⟨⟨j, x, hj, ?_⟩, code_below hcode ((Below.refl _ _).setCell (by show _ ≤ k; omega) v), ?_⟩
  · unfold CurAt
    rw [Below.heap_setCell _ _ _ _ (by show C ≠ k; omega)]
    exact hc
  · have hs : (W.setCell ⟨k, i, none⟩ v).heap.size = W.heap.size := by simp
    exact ⟨hg.os, hg.tape, hg.output, by rw [hs]; exact hg.size, fun m hm hne => (Below.heap_setCell _ _ _ _ (show m ≠ k by omega)).trans (hg.block m hm hne)⟩

theorem onceR (C B : Nat) (a : Option Addr) (len cap : Nat) (n : Int) (h0 : 0 < n) (h1 : n ≤ 256) (w : World) (hC : Cur w C a len cap) (hB : B ≤ C) (hcode : CodeOk w B a len) :
    Calls Tryd.prog 71 #[.pointer (some ⟨C, 0, none⟩), .int .i64 n] w fun e w' => ∃ b : Bool, e = .returned (.bool b) ∧ Drawn w w' C B a len cap := by
  have HCu : Hid (Cur w C a len cap) := hC
  have HCo : Hid (CodeOk w B a len) := hcode
  clear hC hcode
  go_enter Tryd.func71, Tryd.ntmps71
  go_wp2_with fail
  refine (below28 C B a len cap n h0 (by omega) _ HCu.out hB HCo.out).mono ?_
  rintro e w1 ⟨x, rfl, x0, x1, hD⟩
  have HD : Hid (Drawn w w1 C B a len cap) := hD
  clear hD HCu HCo
  go_wp2
  go_ret
  exact ⟨_, rfl, HD.out⟩

theorem laid_ints1 (w : World) (o : Obj) (l : List Int) (j : Nat) (hj : j < l.length) : ((w.alloc o).alloc (.cells (l.map (Value.int .i64)).toArray 3)).cell? ⟨w.heap.size + 1, j, none⟩ = some (.int .i64 l[j]) := by
  have h := laid_ints (w.alloc o) l j hj
  have e : (w.alloc o).heap.size = w.heap.size + 1 := by simp
  rw [e] at h
  exact h


/-- a port that is being drawn -/
def DP (w W : World) (C B : Nat) (a : Option Addr) (len cap : Nat) (kP : Nat) (k f t m fr : Int) : Prop := Drawn w W C B a len cap ∧ W.heap[w.heap.size]? = some (.cells #[.int .i64 0, .int .i64 0, .int .i64 0, .int .i64 0, .int .i64 0] 35) ∧ W.heap[kP]? = some (.cells #[.int .i64 k, .int .i64 f, .int .i64 t, .int .i64 m, .int .i64 fr] 35) ∧ C < w.heap.size ∧ B ≤ C ∧ w.heap.size < kP
theorem DP.on {w W W' : World} {C B : Nat} {a : Option Addr} {len cap kP : Nat} {k f t m fr : Int} (h : DP w W C B a len cap kP k f t m fr) (hD : Drawn W W' C B a len cap) : DP w W' C B a len cap kP k f t m fr := by
  obtain ⟨h1, h2, h3, h4, h5, h6⟩ := h
  exact ⟨drawn_trans h1 hD, row_drawn h2 hD.2.2 (by omega), row_drawn h3 hD.2.2 (by omega), h4, h5, h6⟩
theorem DP.al {w W : World} {C B : Nat} {a : Option Addr} {len cap kP : Nat} {k f t m fr : Int} (h : DP w W C B a len cap kP k f t m fr) (o : Obj) : DP w (W.alloc o) C B a len cap kP k f t m fr := by
  obtain ⟨h1, h2, h3, h4, h5, h6⟩ := h
  have := row_lt h3
  exact ⟨drawn_alloc h1 (by omega) o, row_on h2 (al1_b W o), row_on h3 (al1_b W o), h4, h5, h6⟩
theorem DP.put0 {w W : World} {C B : Nat} {a : Option Addr} {len cap kP : Nat} {k f t m fr : Int} (h : DP w W C B a len cap kP k f t m fr) (z : Int) : DP w (W.setCell ⟨kP, 0, none⟩ (.int .i64 z)) C B a len cap kP z f t m fr := by
  obtain ⟨h1, h2, h3, h4, h5, h6⟩ := h
  exact ⟨drawn_put h1 _ _ (by omega) h4 h5, set_other h2 (by omega), set1_row h3, h4, h5, h6⟩
theorem DP.put1 {w W : World} {C B : Nat} {a : Option Addr} {len cap kP : Nat} {k f t m fr : Int} (h : DP w W C B a len cap kP k f t m fr) (z : Int) : DP w (W.setCell ⟨kP, 1, none⟩ (.int .i64 z)) C B a len cap kP k z t m fr := by
  obtain ⟨h1, h2, h3, h4, h5, h6⟩ := h
  exact ⟨drawn_put h1 _ _ (by omega) h4 h5, set_other h2 (by omega), set1_row h3, h4, h5, h6⟩
theorem DP.put2 {w W : World} {C B : Nat} {a : Option Addr} {len cap kP : Nat} {k f t m fr : Int} (h : DP w W C B a len cap kP k f t m fr) (z : Int) : DP w (W.setCell ⟨kP, 2, none⟩ (.int .i64 z)) C B a len cap kP k f z m fr := by
  obtain ⟨h1, h2, h3, h4, h5, h6⟩ := h
  exact ⟨drawn_put h1 _ _ (by omega) h4 h5, set_other h2 (by omega), set1_row h3, h4, h5, h6⟩
theorem DP.put3 {w W : World} {C B : Nat} {a : Option Addr} {len cap kP : Nat} {k f t m fr : Int} (h : DP w W C B a len cap kP k f t m fr) (z : Int) : DP w (W.setCell ⟨kP, 3, none⟩ (.int .i64 z)) C B a len cap kP k f t z fr := by
  obtain ⟨h1, h2, h3, h4, h5, h6⟩ := h
  exact ⟨drawn_put h1 _ _ (by omega) h4 h5, set_other h2 (by omega), set1_row h3, h4, h5, h6⟩
theorem DP.put4 {w W : World} {C B : Nat} {a : Option Addr} {len cap kP : Nat} {k f t m fr : Int} (h : DP w W C B a len cap kP k f t m fr) (z : Int) : DP w (W.setCell ⟨kP, 4, none⟩ (.int .i64 z)) C B a len cap kP k f t m z := by
  obtain ⟨h1, h2, h3, h4, h5, h6⟩ := h
  exact ⟨drawn_put h1 _ _ (by omega) h4 h5, set_other h2 (by omega), set1_row h3, h4, h5, h6⟩
theorem DP.done {w W : World} {C B : Nat} {a : Option Addr} {len cap kP : Nat} {k f t m fr : Int} (h : DP w W C B a len cap kP k f t m fr) : Drawn w (((((W.setCell ⟨w.heap.size, 0, none⟩ (.int .i64 k)).setCell ⟨w.heap.size, 1, none⟩ (.int .i64 f)).setCell ⟨w.heap.size, 2, none⟩ (.int .i64 t)).setCell ⟨w.heap.size, 3, none⟩ (.int .i64 m)).setCell ⟨w.heap.size, 4, none⟩ (.int .i64 fr)) C B a len cap := by
  obtain ⟨h1, h2, h3, h4, h5, h6⟩ := h
  exact drawn_put (drawn_put (drawn_put (drawn_put (drawn_put h1 0 _ (Nat.le_refl _) h4 h5) 1 _ (Nat.le_refl _) h4 h5) 2 _ (Nat.le_refl _) h4 h5) 3 _ (Nat.le_refl _) h4 h5) 4 _ (Nat.le_refl _) h4 h5

set_option maxRecDepth 100000 in
set_option maxHeartbeats 4000000 in
theorem portD (C B : Nat) (a : Option Addr) (len cap : Nat) (w : World) (hC : Cur w C a len cap) (hB : B ≤ C) (hcode : CodeOk w B a len) :
    Calls Tryd.prog 47 #[.pointer (some ⟨C, 0, none⟩)] w fun e w' => ∃ k f t m fr : Int, e = .returned (.agg #[.int .i64 k, .int .i64 f, .int .i64 t, .int .i64 m, .int .i64 fr]) ∧ PortR k f t m fr ∧ Drawn w w' C B a len cap := by
  have hlt := cur_lt hC
  have HD0 : Hid (Drawn w (w.alloc (.cells #[.int .i64 0, .int .i64 0, .int .i64 0, .int .i64 0, .int .i64 0] 35)) C B a len cap) := drawn_alloc ⟨hC, hcode, World.grownBy.refl _ _⟩ (by omega) _
  have HZ0 : Hid ((w.alloc (.cells #[.int .i64 0, .int .i64 0, .int .i64 0, .int .i64 0, .int .i64 0] 35)).heap[w.heap.size]? = some (.cells #[.int .i64 0, .int .i64 0, .int .i64 0, .int .i64 0, .int .i64 0] 35)) := heap_new w _
  clear hC hcode
  go_enter Tryd.func47, Tryd.ntmps47
  go_wp2_with fail
  refine (below28 C B a len cap 3 (by omega) (by omega) _ HD0.out.1 hB HD0.out.2.1).mono ?_
  rintro e w1 ⟨x, rfl, x0, x1, hD⟩
  have HD1 : Hid (Drawn w w1 C B a len cap) := drawn_trans HD0.out hD
  have HZ1 : Hid (w1.heap[w.heap.size]? = some (.cells #[.int .i64 0, .int .i64 0, .int .i64 0, .int .i64 0, .int .i64 0] 35)) := row_drawn HZ0.out hD.2.2 (by omega)
  clear hD HD0 HZ0
  go_wp2_with fail
  refine (below28 C B a len cap 3 (by omega) (by omega) _ HD1.out.1 hB HD1.out.2.1).mono ?_
  rintro e w2 ⟨y, rfl, y0, y1, hD⟩
  have HD2 : Hid (Drawn w w2 C B a len cap) := drawn_trans HD1.out hD
  have HZ2 : Hid (w2.heap[w.heap.size]? = some (.cells #[.int .i64 0, .int .i64 0, .int .i64 0, .int .i64 0, .int .i64 0] 35)) := row_drawn HZ1.out hD.2.2 (by omega)
  clear hD HD1 HZ1
  go_wp2_with fail
  refine (below28 C B a len cap 3 (by omega) (by omega) _ HD2.out.1 hB HD2.out.2.1).mono ?_
  rintro e w3 ⟨z, rfl, z0, z1, hD⟩
  have HD3 : Hid (Drawn w w3 C B a len cap) := drawn_trans HD2.out hD
  have HZ3 : Hid (w3.heap[w.heap.size]? = some (.cells #[.int .i64 0, .int .i64 0, .int .i64 0, .int .i64 0, .int .i64 0] 35)) := row_drawn HZ2.out hD.2.2 (by omega)
  clear hD HD2 HZ2
  obtain ⟨F, hF⟩ : ∃ F, 1 + x = F := ⟨_, rfl⟩
  obtain ⟨T, hT⟩ : ∃ T, 1 + y = T := ⟨_, rfl⟩
  obtain ⟨Mm, hMm⟩ : ∃ Mm, 1 + z = Mm := ⟨_, rfl⟩
  have hF1 : 1 ≤ F ∧ F ≤ 3 := by omega
  have hs3 := row_lt HZ3.out
  have HJA : Hid (∀ T, DP w (w3.alloc (.cells #[.int .i64 1, .int .i64 F, .int .i64 T, .int .i64 Mm, .int .i64 0] 35)) C B a len cap w3.heap.size 1 F T Mm 0) := fun T =>
    ⟨drawn_alloc HD3.out (by omega) _, row_on HZ3.out (al1_b w3 _), heap_new w3 _, hlt, hB, by omega⟩
  clear HD3 HZ3 hs3
  by_cases hFT : F = T
  · subst hFT
    have hr2 : F.tmod 3 = F % 3 := Int.tmod_eq_emod_of_nonneg (by omega)
    obtain ⟨T, hT2⟩ : ∃ T, 1 + F % 3 = T := ⟨_, rfl⟩
    have HJ : Hid (DP _ _ _ _ _ _ _ _ _ _ _ _ _ ) := HJA.out T
    clear HJA
    go_wp2_with fail
    refine (onceR C B a len cap 3 (by omega) (by omega) _ HJ.out.1.1 hB HJ.out.1.2.1).mono ?_
    rintro e w7 ⟨b, rfl, hD⟩
    have HK : Hid (DP _ _ _ _ _ _ _ _ _ _ _ _ _ ) := HJ.out.on hD
    clear hD HJ
    cases b with
    | false =>
      have kk := box5_cells HK.out.2.2.1
      have kz := box5_cells HK.out.2.1
      have HF : Hid (Drawn _ _ _ _ _ _ _) := HK.out.done
      clear HK
      go_wp2
      refine bodyPost_ret (v := .agg #[.int .i64 1, .int .i64 F, .int .i64 T, .int .i64 Mm, .int .i64 0]) (by simp [results, Tryd.results47, go_sem, kz]) rfl ⟨1, F, T, Mm, 0, rfl, ⟨by omega, by omega, by omega, .inl ⟨rfl, by omega, rfl⟩⟩, HF.out⟩
    | true =>
      have k7 := box5_cells HK.out.2.2.1
      have HK1 : Hid (DP _ _ _ _ _ _ _ _ _ _ _ _ _ ) := HK.out.put0 2
      have k8 := box5_cells HK1.out.2.2.1
      have HK2 : Hid (DP _ _ _ _ _ _ _ _ _ _ _ _ _ ) := HK1.out.put3 1
      have k9 := box5_cells HK2.out.2.2.1
      clear HK HK1
      go_wp2_with fail
      clear k7 k8 k9
      refine (below28 C B a len cap 8 (by omega) (by omega) _ HK2.out.1.1 hB HK2.out.1.2.1).mono ?_
      rintro e w8 ⟨z, rfl, z0, z1, hD⟩
      have h8 := HK2.out.on hD
      have k8 := box5_cells h8.2.2.1
      have HK3 : Hid (DP _ _ _ _ _ _ _ _ _ _ _ _ _ ) := h8.put4 (1 + z)
      clear hD HK2 h8
      have kk := box5_cells HK3.out.2.2.1
      have kz := box5_cells HK3.out.2.1
      have HF : Hid (Drawn _ _ _ _ _ _ _) := HK3.out.done
      clear HK3
      go_wp2
      refine bodyPost_ret (v := .agg #[.int .i64 2, .int .i64 F, .int .i64 T, .int .i64 1, .int .i64 (1 + z)]) (by simp [results, Tryd.results47, go_sem, kz]) rfl ⟨2, F, T, 1, (1 + z), rfl, ⟨by omega, by omega, by omega, .inr ⟨rfl, rfl, by omega⟩⟩, HF.out⟩
  · have hFT2 : (F == T) = false := by simpa using hFT
    have HJ : Hid (DP _ _ _ _ _ _ _ _ _ _ _ _ _ ) := HJA.out T
    clear HJA
    go_wp2_with fail
    refine (onceR C B a len cap 3 (by omega) (by omega) _ HJ.out.1.1 hB HJ.out.1.2.1).mono ?_
    rintro e w7 ⟨b, rfl, hD⟩
    have HK : Hid (DP _ _ _ _ _ _ _ _ _ _ _ _ _ ) := HJ.out.on hD
    clear hD HJ
    cases b with
    | false =>
      have kk := box5_cells HK.out.2.2.1
      have kz := box5_cells HK.out.2.1
      have HF : Hid (Drawn _ _ _ _ _ _ _) := HK.out.done
      clear HK
      go_wp2
      refine bodyPost_ret (v := .agg #[.int .i64 1, .int .i64 F, .int .i64 T, .int .i64 Mm, .int .i64 0]) (by simp [results, Tryd.results47, go_sem, kz]) rfl ⟨1, F, T, Mm, 0, rfl, ⟨by omega, by omega, by omega, .inl ⟨rfl, by omega, rfl⟩⟩, HF.out⟩
    | true =>
      have k7 := box5_cells HK.out.2.2.1
      have HK1 : Hid (DP _ _ _ _ _ _ _ _ _ _ _ _ _ ) := HK.out.put0 2
      have k8 := box5_cells HK1.out.2.2.1
      have HK2 : Hid (DP _ _ _ _ _ _ _ _ _ _ _ _ _ ) := HK1.out.put3 1
      have k9 := box5_cells HK2.out.2.2.1
      clear HK HK1
      go_wp2_with fail
      clear k7 k8 k9
      refine (below28 C B a len cap 8 (by omega) (by omega) _ HK2.out.1.1 hB HK2.out.1.2.1).mono ?_
      rintro e w8 ⟨z, rfl, z0, z1, hD⟩
      have h8 := HK2.out.on hD
      have k8 := box5_cells h8.2.2.1
      have HK3 : Hid (DP _ _ _ _ _ _ _ _ _ _ _ _ _ ) := h8.put4 (1 + z)
      clear hD HK2 h8
      have kk := box5_cells HK3.out.2.2.1
      have kz := box5_cells HK3.out.2.1
      have HF : Hid (Drawn _ _ _ _ _ _ _) := HK3.out.done
      clear HK3
      go_wp2
      refine bodyPost_ret (v := .agg #[.int .i64 2, .int .i64 F, .int .i64 T, .int .i64 1, .int .i64 (1 + z)]) (by simp [results, Tryd.results47, go_sem, kz]) rfl ⟨2, F, T, 1, (1 + z), rfl, ⟨by omega, by omega, by omega, .inr ⟨rfl, rfl, by omega⟩⟩, HF.out⟩

end Go.Proofs.YtadbekhekggpkaaDoor.P
