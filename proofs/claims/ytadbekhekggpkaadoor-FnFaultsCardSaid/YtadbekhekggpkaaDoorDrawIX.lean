/-
  Drawn texts, instructions, code: the contracts of the specification's draws.
-/
import Derived.Test.YtadbekhekggpkaaDoorBytes0X
import Derived.Test.YtadbekhekggpkaaDoorOwnII
import Derived.Test.YtadbekhekggpkaaDoorSetsX
import Derived.Test.YtadbekhekggpkaaDoorDraw
import Derived.Test.YtadbekhekggpkaaDoorInts
namespace Go.Proofs.YtadbekhekggpkaaDoor.I
open Go.RowKit Go.PlainAid
set_option linter.unusedVariables false

theorem row_drawn {W W' : World} {k C : Nat} {o : Obj} (h : W.heap[k]? = some o) (hg : W.grownBy W' (some C)) (hk : k ≠ C) : W'.heap[k]? = some o :=
  (hg.block k (row_lt h) (fun e => by cases e; exact hk rfl)).trans h

/-- what is appended to new memory, behind a draw -/
theorem drawn_grown {w W W' : World} {C B : Nat} {a : Option Addr} {len cap : Nat} {v : Value} (h : Drawn w W C B a len cap) (hg : W.grownBy W' v.ownBlock) (hv : ∀ g, v.ownBlock = some g → w.heap.size ≤ g) (hC : C < w.heap.size) (hB : B ≤ w.heap.size) : Drawn w W' C B a len cap :=
  ⟨cur_new (B := B) h.1 hg (fun g e => by have := hv g e; omega), code_below h.2.1 ((Below.refl _ _).grown hg (Nat.le_trans hB h.2.2.size) (fun g e => by have := hv g e; omega)), grown_new h.2.2 hg hv⟩

theorem drawn_drew {w W : World} {C B : Nat} {a : Option Addr} {len cap : Nat} (h : Drawn w W C B a len cap) : Drawn w W.drew C B a len cap :=
  ⟨h.1, h.2.1, ⟨h.2.2.os, h.2.2.tape, h.2.2.output, h.2.2.size, h.2.2.block⟩⟩
theorem drawn_put {w W : World} {C B : Nat} {a : Option Addr} {len cap : Nat} (h : Drawn w W C B a len cap) {k : Nat} (i : Nat) (v : Value) (hk : w.heap.size ≤ k) (hC : C < w.heap.size) (hB : B ≤ C) : Drawn w (W.setCell ⟨k, i, none⟩ v) C B a len cap := by
  obtain ⟨⟨j, x, hj, hc⟩, hcode, hg⟩ := h
  refine ⟨⟨j, x, hj, ?_⟩, code_below hcode ((Below.refl _ _).setCell (by show _ ≤ k; omega) v), ?_⟩
  · unfold CurAt
    rw [Below.heap_setCell _ _ _ _ (by show C ≠ k; omega)]
    exact hc
  · have hs : (W.setCell ⟨k, i, none⟩ v).heap.size = W.heap.size := by simp
    exact ⟨hg.os, hg.tape, hg.output, by rw [hs]; exact hg.size, fun m hm hne => (Below.heap_setCell _ _ _ _ (show m ≠ k by omega)).trans (hg.block m hm hne)⟩

theorem onceR (C B : Nat) (a : Option Addr) (len cap : Nat) (n : Int) (h0 : 0 < n) (h1 : n ≤ 256) (w : World) (hC : Cur w C a len cap) (hB : B ≤ C) (hcode : CodeOk w B a len) :
    Calls Tryd.prog 71 #[.pointer (some ⟨C, 0, none⟩), .int .i64 n] w fun e w' => ∃ b : Bool, e = .returned (.bool b) ∧ Drawn w w' C B a len cap := by
  have HCu : Hid (Cur w C a len cap) := hC
  have HCo : Hid (CodeOk w B a len) := hcode
  clear hC hcode
  go_enter Tryd.func71, Tryd.ntmps71
  go_wp2_with fail
  refine (below28 C B a len cap n h0 (by omega) _ HCu.out hB HCo.out).mono ?_
  rintro e w1 ⟨x, rfl, x0, x1, hD⟩
  have HD : Hid (Drawn w w1 C B a len cap) := hD
  clear hD HCu HCo
  go_wp2
  go_ret
  exact ⟨_, rfl, HD.out⟩
set_option maxRecDepth 100000 in
set_option maxHeartbeats 400000 in
theorem pick26 (C B : Nat) (a : Option Addr) (len cap : Nat) (l : List Int) (g cp : Nat) (hl : 0 < l.length) (hl2 : l.length ≤ 1000) (w : World) (hC : Cur w C a len cap) (hB : B ≤ C) (hcode : CodeOk w B a len)
    (hg : g ≠ C) (hgl : g < w.heap.size) (hcell : ∀ j (hj : j < l.length), w.cell? ⟨g, j, none⟩ = some (.int .i64 l[j])) :
    Calls Tryd.prog 87 #[.pointer (some ⟨C, 0, none⟩), .slice (some ⟨g, 0, none⟩) l.length cp] w fun e w' => ∃ x : Int, e = .returned (.int .i64 x) ∧ x ∈ l ∧ Drawn w w' C B a len cap := by
  have HD0 : Hid (Drawn w w C B a len cap) := ⟨hC, hcode, World.grownBy.refl _ _⟩
  have HC : Hid (∀ j (hj : j < l.length), w.cell? ⟨g, j, none⟩ = some (.int .i64 l[j])) := hcell
  clear hC hcode hcell
  go_enter Tryd.func87, Tryd.ntmps87
  go_wp2_with fail
  refine (below28 C B a len cap _ (by omega) (by omega) _ HD0.out.1 hB HD0.out.2.1).mono ?_
  rintro e w1 ⟨x, rfl, x0, x1, hD⟩
  obtain ⟨n, rfl⟩ := Int.eq_ofNat_of_zero_le x0
  have hn : n < l.length := by omega
  have hc : w1.cell? ⟨g, n, none⟩ = some (.int .i64 l[n]) := (hD.2.2.cell_far ⟨g, n, none⟩ hgl (fun e => by cases e; exact hg rfl)).trans (HC.out n hn)
  have hm : l[n] ∈ l := List.getElem_mem hn
  have HD : Hid (Drawn w w1 C B a len cap) := hD
  clear hD HD0
  have HM : Hid (l[n] ∈ l) := hm
  clear hm
  go_wp2
  go_ret
  exact ⟨_, rfl, HM.out, HD.out⟩

theorem pick26' (C B : Nat) (a : Option Addr) (len cap : Nat) (l : List Int) (n g cp : Nat) (hn : l.length = n) (hl : 0 < n) (hl2 : n ≤ 1000) (w : World) (hC : Cur w C a len cap) (hB : B ≤ C) (hcode : CodeOk w B a len)
    (hg : g ≠ C) (hgl : g < w.heap.size) (hcell : ∀ j (hj : j < l.length), w.cell? ⟨g, j, none⟩ = some (.int .i64 l[j])) :
    Calls Tryd.prog 87 #[.pointer (some ⟨C, 0, none⟩), .slice (some ⟨g, 0, none⟩) n cp] w fun e w' => ∃ x : Int, e = .returned (.int .i64 x) ∧ x ∈ l ∧ Drawn w w' C B a len cap := by
  subst hn; exact pick26 C B a len cap l g cp hl hl2 w hC hB hcode hg hgl hcell
theorem byte_nat {x : Int} (h0 : 0 ≤ x) (h1 : x ≤ 255) : ((UInt8.ofNat x.toNat).toNat : Int) = x := by
  rw [UInt8.toNat_ofNat']; omega

/-- what stands while an instruction is drawn: the answer's box and the instruction's -/
def DI (w W : World) (C B : Nat) (a : Option Addr) (len cap : Nat) (k : Nat) (x y : Int) : Prop := Drawn w W C B a len cap ∧ W.heap[w.heap.size]? = some (.cells #[.int .i64 0, .int .i64 0] 116) ∧ W.heap[k]? = some (.cells #[.int .i64 x, .int .i64 y] 116) ∧ C < w.heap.size ∧ B ≤ C ∧ w.heap.size < k
theorem DI.on {w W W' : World} {C B : Nat} {a : Option Addr} {len cap k : Nat} {x y : Int} (h : DI w W C B a len cap k x y) (hD : Drawn W W' C B a len cap) : DI w W' C B a len cap k x y := by
  obtain ⟨h1, h2, h3, h4, h5, h6⟩ := h
  exact ⟨drawn_trans h1 hD, row_drawn h2 hD.2.2 (by omega), row_drawn h3 hD.2.2 (by omega), h4, h5, h6⟩
theorem DI.put0 {w W : World} {C B : Nat} {a : Option Addr} {len cap k : Nat} {x y : Int} (h : DI w W C B a len cap k x y) (z : Int) : DI w (W.setCell ⟨k, 0, none⟩ (.int .i64 z)) C B a len cap k z y := by
  obtain ⟨h1, h2, h3, h4, h5, h6⟩ := h
  exact ⟨drawn_put h1 _ _ (by omega) h4 h5, set_other h2 (by omega), set1_row h3, h4, h5, h6⟩
theorem DI.put1 {w W : World} {C B : Nat} {a : Option Addr} {len cap k : Nat} {x y : Int} (h : DI w W C B a len cap k x y) (z : Int) : DI w (W.setCell ⟨k, 1, none⟩ (.int .i64 z)) C B a len cap k x z := by
  obtain ⟨h1, h2, h3, h4, h5, h6⟩ := h
  exact ⟨drawn_put h1 _ _ (by omega) h4 h5, set_other h2 (by omega), set1_row h3, h4, h5, h6⟩
theorem DI.done {w W : World} {C B : Nat} {a : Option Addr} {len cap k : Nat} {x y : Int} (h : DI w W C B a len cap k x y) : Drawn w ((W.setCell ⟨w.heap.size, 0, none⟩ (.int .i64 x)).setCell ⟨w.heap.size, 1, none⟩ (.int .i64 y)) C B a len cap :=
  drawn_put (drawn_put h.1 0 _ (Nat.le_refl _) h.2.2.2.1 h.2.2.2.2.1) 1 _ (Nat.le_refl _) h.2.2.2.1 h.2.2.2.2.1

theorem laid_ints1 (w : World) (o : Obj) (l : List Int) (j : Nat) (hj : j < l.length) : ((w.alloc o).alloc (.cells (l.map (Value.int .i64)).toArray 3)).cell? ⟨w.heap.size + 1, j, none⟩ = some (.int .i64 l[j]) := by
  have h := laid_ints (w.alloc o) l j hj
  have e : (w.alloc o).heap.size = w.heap.size + 1 := by simp
  rw [e] at h
  exact h

set_option maxRecDepth 100000 in
set_option maxHeartbeats 4000000 in
theorem instrD (C B : Nat) (a : Option Addr) (len cap : Nat) (w : World) (hC : Cur w C a len cap) (hB : B ≤ C) (hcode : CodeOk w B a len) :
    Calls Tryd.prog 74 #[.pointer (some ⟨C, 0, none⟩)] w fun e w' => ∃ f s : Int, e = .returned (.agg #[.int .i64 f, .int .i64 s]) ∧ Drawn w w' C B a len cap := by
  have hlt := cur_lt hC
  have HD0 : Hid (Drawn w (w.alloc (.cells #[.int .i64 0, .int .i64 0] 116)) C B a len cap) := drawn_alloc ⟨hC, hcode, World.grownBy.refl _ _⟩ (by omega) _
  have HZ0 : Hid ((w.alloc (.cells #[.int .i64 0, .int .i64 0] 116)).heap[w.heap.size]? = some (.cells #[.int .i64 0, .int .i64 0] 116)) := heap_new w _
  have HDa : Hid (∀ o, Drawn w ((w.alloc (.cells #[.int .i64 0, .int .i64 0] 116)).alloc o) C B a len cap) := fun o => drawn_alloc HD0.out (by simp; omega) o
  have HZa : Hid (∀ o, ((w.alloc (.cells #[.int .i64 0, .int .i64 0] 116)).alloc o).heap[w.heap.size]? = some (.cells #[.int .i64 0, .int .i64 0] 116)) := fun o => (Below.heap_alloc _ _ _ (row_lt HZ0.out)).trans HZ0.out
  have HLI : Hid _ := laid_ints1 w (.cells #[.int .i64 0, .int .i64 0] 116) [0, 1, 1, 1, 1, 1, 2, 3, 3, 4, 5, 6, 7, 8, 9, 10, 11, 12, 13, 14, 15, 16, 17]
  clear hC hcode HD0 HZ0
  go_enter Tryd.func74, Tryd.ntmps74
  go_wp2_with fail
  refine (pick26' C B a len cap [0, 1, 1, 1, 1, 1, 2, 3, 3, 4, 5, 6, 7, 8, 9, 10, 11, 12, 13, 14, 15, 16, 17] 23 _ _ rfl (by omega) (by omega) _ (HDa.out _).1 hB (HDa.out _).2.1 (by omega) (by simp) HLI.out).mono ?_
  rintro e w1 ⟨op, rfl, _, hD⟩
  have HD1 : Hid (Drawn w w1 C B a len cap) := drawn_trans (HDa.out _) hD
  have HZ1 : Hid (w1.heap[w.heap.size]? = some (.cells #[.int .i64 0, .int .i64 0] 116)) := row_drawn (HZa.out _) hD.2.2 (by omega)
  clear hD HDa HZa HLI
  go_wp2_with fail
  refine (below28 C B a len cap 4 (by omega) (by omega) _ HD1.out.1 hB HD1.out.2.1).mono ?_
  rintro e w2 ⟨arg, rfl, _, _, hD⟩
  have hs := hD.2.2.size
  have hs1 := row_lt HZ1.out
  have HI : Hid (DI w (w2.alloc (.cells #[.int .i64 op, .int .i64 arg] 116)) C B a len cap w2.heap.size op arg) :=
    ⟨drawn_alloc (drawn_trans HD1.out hD) (by omega) _, (Below.heap_alloc _ _ _ (by omega)).trans (row_drawn HZ1.out hD.2.2 (by omega)), heap_new w2 _, hlt, hB, by omega⟩
  have k1 := row2_cells HI.out.2.2.1
  clear hD HD1 HZ1
  have ways : op = 1 ∨ op = 9 ∨ op = 10 ∨ ((op == 1) = false ∧ (op == 9) = false ∧ (op == 10) = false) := by
    by_cases h1 : op = 1
    · exact .inl h1
    · by_cases h2 : op = 9
      · exact .inr (.inl h2)
      · by_cases h3 : op = 10
        · exact .inr (.inr (.inl h3))
        · exact .inr (.inr (.inr ⟨by simpa using h1, by simpa using h2, by simpa using h3⟩))
  rcases ways with rfl | rfl | rfl | ⟨g1, g2, g3⟩
  · skip
    go_wp2_with fail
    refine (below28 C B a len cap 8 (by omega) (by omega) _ HI.out.1.1 hB HI.out.1.2.1).mono ?_
    rintro e w5 ⟨z, rfl, _, _, hD⟩
    have h5 := HI.out.on hD
    have k5 := row2_cells h5.2.2.1
    have HI5 : Hid (DI _ _ _ _ _ _ _ _ _ _) := h5.put1 z
    have k6 := row2_cells HI5.out.2.2.1
    clear hD HI h5 k1
    go_wp2_with fail
    refine (onceR C B a len cap 40 (by omega) (by omega) _ HI5.out.1.1 hB HI5.out.1.2.1).mono ?_
    rintro e w7 ⟨b, rfl, hD⟩
    have HJ : Hid (DI _ _ _ _ _ _ _ _ _ _) := HI5.out.on hD
    clear hD HI5
    cases b
    · have kk := row2_cells HJ.out.2.2.1
      have kz := row2_cells HJ.out.2.1
      have HF : Hid (Drawn _ _ _ _ _ _ _) := HJ.out.done
      clear HJ
      go_wp2
      refine bodyPost_ret (v := .agg #[.int .i64 1, .int .i64 z]) (by simp [results, Tryd.results74, go_sem, kz]) rfl ⟨1, z, rfl, HF.out⟩
    · go_wp2_with fail
      refine (below28 C B a len cap 256 (by omega) (by omega) _ HJ.out.1.1 hB HJ.out.1.2.1).mono ?_
      rintro e w8 ⟨z8, rfl, _, _, hD⟩
      have h8 := HJ.out.on hD
      have k8 := row2_cells h8.2.2.1
      have HK : Hid (DI _ _ _ _ _ _ _ _ _ _) := h8.put0 z8
      have kk := row2_cells HK.out.2.2.1
      have kz := row2_cells HK.out.2.1
      have HF : Hid (Drawn _ _ _ _ _ _ _) := HK.out.done
      clear hD HJ h8 HK
      go_wp2
      refine bodyPost_ret (v := .agg #[.int .i64 z8, .int .i64 z]) (by simp [results, Tryd.results74, go_sem, kz]) rfl ⟨z8, z, rfl, HF.out⟩

  · skip
    go_wp2_with fail
    refine (below28 C B a len cap 14 (by omega) (by omega) _ HI.out.1.1 hB HI.out.1.2.1).mono ?_
    rintro e w5 ⟨z, rfl, _, _, hD⟩
    have h5 := HI.out.on hD
    have k5 := row2_cells h5.2.2.1
    have HI5 : Hid (DI _ _ _ _ _ _ _ _ _ _) := h5.put1 z
    have k6 := row2_cells HI5.out.2.2.1
    clear hD HI h5 k1
    go_wp2_with fail
    refine (onceR C B a len cap 40 (by omega) (by omega) _ HI5.out.1.1 hB HI5.out.1.2.1).mono ?_
    rintro e w7 ⟨b, rfl, hD⟩
    have HJ : Hid (DI _ _ _ _ _ _ _ _ _ _) := HI5.out.on hD
    clear hD HI5
    cases b
    · have kk := row2_cells HJ.out.2.2.1
      have kz := row2_cells HJ.out.2.1
      have HF : Hid (Drawn _ _ _ _ _ _ _) := HJ.out.done
      clear HJ
      go_wp2
      refine bodyPost_ret (v := .agg #[.int .i64 9, .int .i64 z]) (by simp [results, Tryd.results74, go_sem, kz]) rfl ⟨9, z, rfl, HF.out⟩
    · go_wp2_with fail
      refine (below28 C B a len cap 256 (by omega) (by omega) _ HJ.out.1.1 hB HJ.out.1.2.1).mono ?_
      rintro e w8 ⟨z8, rfl, _, _, hD⟩
      have h8 := HJ.out.on hD
      have k8 := row2_cells h8.2.2.1
      have HK : Hid (DI _ _ _ _ _ _ _ _ _ _) := h8.put0 z8
      have kk := row2_cells HK.out.2.2.1
      have kz := row2_cells HK.out.2.1
      have HF : Hid (Drawn _ _ _ _ _ _ _) := HK.out.done
      clear hD HJ h8 HK
      go_wp2
      refine bodyPost_ret (v := .agg #[.int .i64 z8, .int .i64 z]) (by simp [results, Tryd.results74, go_sem, kz]) rfl ⟨z8, z, rfl, HF.out⟩

  · skip
    go_wp2_with fail
    refine (below28 C B a len cap 14 (by omega) (by omega) _ HI.out.1.1 hB HI.out.1.2.1).mono ?_
    rintro e w5 ⟨z, rfl, _, _, hD⟩
    have h5 := HI.out.on hD
    have k5 := row2_cells h5.2.2.1
    have HI5 : Hid (DI _ _ _ _ _ _ _ _ _ _) := h5.put1 z
    have k6 := row2_cells HI5.out.2.2.1
    clear hD HI h5 k1
    go_wp2_with fail
    refine (onceR C B a len cap 40 (by omega) (by omega) _ HI5.out.1.1 hB HI5.out.1.2.1).mono ?_
    rintro e w7 ⟨b, rfl, hD⟩
    have HJ : Hid (DI _ _ _ _ _ _ _ _ _ _) := HI5.out.on hD
    clear hD HI5
    cases b
    · have kk := row2_cells HJ.out.2.2.1
      have kz := row2_cells HJ.out.2.1
      have HF : Hid (Drawn _ _ _ _ _ _ _) := HJ.out.done
      clear HJ
      go_wp2
      refine bodyPost_ret (v := .agg #[.int .i64 10, .int .i64 z]) (by simp [results, Tryd.results74, go_sem, kz]) rfl ⟨10, z, rfl, HF.out⟩
    · go_wp2_with fail
      refine (below28 C B a len cap 256 (by omega) (by omega) _ HJ.out.1.1 hB HJ.out.1.2.1).mono ?_
      rintro e w8 ⟨z8, rfl, _, _, hD⟩
      have h8 := HJ.out.on hD
      have k8 := row2_cells h8.2.2.1
      have HK : Hid (DI _ _ _ _ _ _ _ _ _ _) := h8.put0 z8
      have kk := row2_cells HK.out.2.2.1
      have kz := row2_cells HK.out.2.1
      have HF : Hid (Drawn _ _ _ _ _ _ _) := HK.out.done
      clear hD HJ h8 HK
      go_wp2
      refine bodyPost_ret (v := .agg #[.int .i64 z8, .int .i64 z]) (by simp [results, Tryd.results74, go_sem, kz]) rfl ⟨z8, z, rfl, HF.out⟩

  · skip
    go_wp2_with fail
    refine (onceR C B a len cap 40 (by omega) (by omega) _ HI.out.1.1 hB HI.out.1.2.1).mono ?_
    rintro e w7 ⟨b, rfl, hD⟩
    have HJ : Hid (DI _ _ _ _ _ _ _ _ _ _) := HI.out.on hD
    clear hD HI
    cases b
    · have kk := row2_cells HJ.out.2.2.1
      have kz := row2_cells HJ.out.2.1
      have HF : Hid (Drawn _ _ _ _ _ _ _) := HJ.out.done
      clear HJ
      go_wp2
      refine bodyPost_ret (v := .agg #[.int .i64 op, .int .i64 arg]) (by simp [results, Tryd.results74, go_sem, kz]) rfl ⟨op, arg, rfl, HF.out⟩
    · go_wp2_with fail
      refine (below28 C B a len cap 256 (by omega) (by omega) _ HJ.out.1.1 hB HJ.out.1.2.1).mono ?_
      rintro e w8 ⟨z8, rfl, _, _, hD⟩
      have h8 := HJ.out.on hD
      have k8 := row2_cells h8.2.2.1
      have HK : Hid (DI _ _ _ _ _ _ _ _ _ _) := h8.put0 z8
      have kk := row2_cells HK.out.2.2.1
      have kz := row2_cells HK.out.2.1
      have HF : Hid (Drawn _ _ _ _ _ _ _) := HK.out.done
      clear hD HJ h8 HK
      go_wp2
      refine bodyPost_ret (v := .agg #[.int .i64 z8, .int .i64 arg]) (by simp [results, Tryd.results74, go_sem, kz]) rfl ⟨z8, arg, rfl, HF.out⟩


end Go.Proofs.YtadbekhekggpkaaDoor.I
