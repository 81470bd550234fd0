/-
  Drawn texts, instructions, code: the contracts of the specification's draws.
-/
import Derived.Test.YthnocibkgpofnaaOwnII
import Derived.Test.YthnocibkgpofnaaPlacesD
import Derived.Test.YthnocibkgpofnaaOwn6
import Derived.Test.YthnocibkgpofnaaInts
import Derived.Test.YthnocibkgpofnaaCodeI
import Derived.ScopeJumps
import Derived.WalkMore
import Derived.Test.YthnocibkgpofnaaDrawM
import Derived.Test.YthnocibkgpofnaaAl
namespace Go.Proofs.Ythnocibkgpofnaa.I
open D
open Go.RowKit Go.PlainAid
set_option linter.unusedVariables false

theorem row_drawn {W W' : World} {k C : Nat} {o : Obj} (h : W.heap[k]? = some o) (hg : W.grownBy W' (some C)) (hk : k ≠ C) : W'.heap[k]? = some o :=
  (hg.block k (row_lt h) (fun e => by cases e; exact hk rfl)).trans h

/-- what is appended to new memory, behind a draw -/
theorem drawn_grown {w W W' : World} {C B : Nat} {a : Option Addr} {len cap : Nat} {v : Value} (h : Drawn w W C B a len cap) (hg : W.grownBy W' v.ownBlock) (hv : ∀ g, v.ownBlock = some g → w.heap.size ≤ g) (hC : C < w.heap.size) (hB : B ≤ w.heap.size) : Drawn w W' C B a len cap :=
  ⟨cur_new (B := B) h.1 hg (fun g e => by have := hv g e; omega), code_below h.2.1 ((Below.refl _ _).grown hg (Nat.le_trans hB h.2.2.size) (fun g e => by have := hv g e; omega)), grown_new h.2.2 hg hv⟩

theorem drawn_drew {w W : World} {C B : Nat} {a : Option Addr} {len cap : Nat} (h : Drawn w W C B a len cap) : Drawn w W.drew C B a len cap :=
  ⟨h.1, h.2.1, ⟨h.2.2.os, h.2.2.tape, h.2.2.output, h.2.2.size, h.2.2.block⟩⟩
theorem drawn_put {w W : World} {C B : Nat} {a : Option Addr} {len cap : Nat} (h : Drawn w W C B a len cap) {k : Nat} (i : Nat) (v : Value) (hk : w.heap.size ≤ k) (hC : C < w.heap.size) (hB : B ≤ C) : Drawn w (W.setCell ⟨k, i, none⟩ v) C B a len cap := by
  obtain ⟨⟨j, x, hj, hc⟩, hcode, hg⟩ := h
  refine ⟨⟨j, x, hj, ?_⟩, code_below hcode ((Below.refl _ _).setCell (by show _ ≤ k; omega) v), ?_⟩
  · unfold CurAt
    rw [Below.heap_setCell _ _ _ _ (by show C ≠ k; omega)]
    exact hc
  · have hs : (W.setCell ⟨k, i, none⟩ v).heap.size = W.heap.size := by simp
    exact ⟨hg.os, hg.tape, hg.output, by rw [hs]; exact hg.size, fun m hm hne => (Below.heap_setCell _ _ _ _ (show m ≠ k by omega)).trans (hg.block m hm hne)⟩

theorem onceR (C B : Nat) (a : Option Addr) (len cap : Nat) (n : Int) (h0 : 0 < n) (h1 : n ≤ 256) (w : World) (hC : Cur w C a len cap) (hB : B ≤ C) (hcode : CodeOk w B a len) :
    Calls Try.prog 49 #[.pointer (some ⟨C, 0, none⟩), .int .i64 n] w fun e w' => ∃ b : Bool, e = .returned (.bool b) ∧ Drawn w w' C B a len cap := by
  have HCu : Hid (Cur w C a len cap) := hC
  have HCo : Hid (CodeOk w B a len) := hcode
  clear hC hcode
  go_enter Try.func49, Try.ntmps49
  go_wp2_with fail
  refine (below28 C B a len cap n h0 (by omega) _ HCu.out hB HCo.out).mono ?_
  rintro e w1 ⟨x, rfl, x0, x1, hD⟩
  have HD : Hid (Drawn w w1 C B a len cap) := hD
  clear hD HCu HCo
  go_wp2
  go_ret
  exact ⟨_, rfl, HD.out⟩
set_option maxRecDepth 100000 in
set_option maxHeartbeats 400000 in
theorem pick26 (C B : Nat) (a : Option Addr) (len cap : Nat) (l : List Int) (g cp : Nat) (hl : 0 < l.length) (hl2 : l.length ≤ 1000) (w : World) (hC : Cur w C a len cap) (hB : B ≤ C) (hcode : CodeOk w B a len)
    (hg : g ≠ C) (hgl : g < w.heap.size) (hcell : ∀ j (hj : j < l.length), w.cell? ⟨g, j, none⟩ = some (.int .i64 l[j])) :
    Calls Try.prog 45 #[.pointer (some ⟨C, 0, none⟩), .slice (some ⟨g, 0, none⟩) l.length cp] w fun e w' => ∃ x : Int, e = .returned (.int .i64 x) ∧ x ∈ l ∧ Drawn w w' C B a len cap := by
  have HD0 : Hid (Drawn w w C B a len cap) := ⟨hC, hcode, World.grownBy.refl _ _⟩
  have HC : Hid (∀ j (hj : j < l.length), w.cell? ⟨g, j, none⟩ = some (.int .i64 l[j])) := hcell
  clear hC hcode hcell
  go_enter Try.func45, Try.ntmps45
  go_wp2_with fail
  refine (below28 C B a len cap _ (by omega) (by omega) _ HD0.out.1 hB HD0.out.2.1).mono ?_
  rintro e w1 ⟨x, rfl, x0, x1, hD⟩
  obtain ⟨n, rfl⟩ := Int.eq_ofNat_of_zero_le x0
  have hn : n < l.length := by omega
  have hc : w1.cell? ⟨g, n, none⟩ = some (.int .i64 l[n]) := (hD.2.2.cell_far ⟨g, n, none⟩ hgl (fun e => by cases e; exact hg rfl)).trans (HC.out n hn)
  have hm : l[n] ∈ l := List.getElem_mem hn
  have HD : Hid (Drawn w w1 C B a len cap) := hD
  clear hD HD0
  have HM : Hid (l[n] ∈ l) := hm
  clear hm
  go_wp2
  go_ret
  exact ⟨_, rfl, HM.out, HD.out⟩

theorem pick26' (C B : Nat) (a : Option Addr) (len cap : Nat) (l : List Int) (n g cp : Nat) (hn : l.length = n) (hl : 0 < n) (hl2 : n ≤ 1000) (w : World) (hC : Cur w C a len cap) (hB : B ≤ C) (hcode : CodeOk w B a len)
    (hg : g ≠ C) (hgl : g < w.heap.size) (hcell : ∀ j (hj : j < l.length), w.cell? ⟨g, j, none⟩ = some (.int .i64 l[j])) :
    Calls Try.prog 45 #[.pointer (some ⟨C, 0, none⟩), .slice (some ⟨g, 0, none⟩) n cp] w fun e w' => ∃ x : Int, e = .returned (.int .i64 x) ∧ x ∈ l ∧ Drawn w w' C B a len cap := by
  subst hn; exact pick26 C B a len cap l g cp hl hl2 w hC hB hcode hg hgl hcell
/-- what stands while an instruction is drawn: the answer's box and the instruction's -/
def DI (w W : World) (C B : Nat) (a : Option Addr) (len cap : Nat) (k : Nat) (x y : Int) : Prop := Drawn w W C B a len cap ∧ W.heap[w.heap.size]? = some (.cells #[.int .i64 0, .int .i64 0] 51) ∧ W.heap[k]? = some (.cells #[.int .i64 x, .int .i64 y] 51) ∧ C < w.heap.size ∧ B ≤ C ∧ w.heap.size < k
theorem DI.on {w W W' : World} {C B : Nat} {a : Option Addr} {len cap k : Nat} {x y : Int} (h : DI w W C B a len cap k x y) (hD : Drawn W W' C B a len cap) : DI w W' C B a len cap k x y := by
  obtain ⟨h1, h2, h3, h4, h5, h6⟩ := h
  exact ⟨drawn_trans h1 hD, row_drawn h2 hD.2.2 (by omega), row_drawn h3 hD.2.2 (by omega), h4, h5, h6⟩
theorem DI.put0 {w W : World} {C B : Nat} {a : Option Addr} {len cap k : Nat} {x y : Int} (h : DI w W C B a len cap k x y) (z : Int) : DI w (W.setCell ⟨k, 0, none⟩ (.int .i64 z)) C B a len cap k z y := by
  obtain ⟨h1, h2, h3, h4, h5, h6⟩ := h
  exact ⟨drawn_put h1 _ _ (by omega) h4 h5, set_other h2 (by omega), set1_row h3, h4, h5, h6⟩
theorem DI.put1 {w W : World} {C B : Nat} {a : Option Addr} {len cap k : Nat} {x y : Int} (h : DI w W C B a len cap k x y) (z : Int) : DI w (W.setCell ⟨k, 1, none⟩ (.int .i64 z)) C B a len cap k x z := by
  obtain ⟨h1, h2, h3, h4, h5, h6⟩ := h
  exact ⟨drawn_put h1 _ _ (by omega) h4 h5, set_other h2 (by omega), set1_row h3, h4, h5, h6⟩
theorem DI.done {w W : World} {C B : Nat} {a : Option Addr} {len cap k : Nat} {x y : Int} (h : DI w W C B a len cap k x y) : Drawn w ((W.setCell ⟨w.heap.size, 0, none⟩ (.int .i64 x)).setCell ⟨w.heap.size, 1, none⟩ (.int .i64 y)) C B a len cap :=
  drawn_put (drawn_put h.1 0 _ (Nat.le_refl _) h.2.2.2.1 h.2.2.2.2.1) 1 _ (Nat.le_refl _) h.2.2.2.1 h.2.2.2.2.1

theorem laid_ints1 (w : World) (o : Obj) (l : List Int) (j : Nat) (hj : j < l.length) : ((w.alloc o).alloc (.cells (l.map (Value.int .i64)).toArray 3)).cell? ⟨w.heap.size + 1, j, none⟩ = some (.int .i64 l[j]) := by
  have h := laid_ints (w.alloc o) l j hj
  have e : (w.alloc o).heap.size = w.heap.size + 1 := by simp
  rw [e] at h
  exact h

/-- each instruction and its number a byte -/
def RtL (xs : List (Int × Int)) : Prop := ∀ p ∈ xs, isB p.1 ∧ isB p.2
theorem rtL_nil : RtL [] := fun p h => by cases h
theorem rtL_one {f s : Int} (hf : isB f) (hs : isB s) : RtL [(f, s)] := fun p h => by
  rw [List.mem_singleton] at h; subst h; exact ⟨hf, hs⟩
theorem rtL_app {xs ys : List (Int × Int)} (h : RtL xs) (h' : RtL ys) : RtL (xs ++ ys) := fun p hp => by
  rcases List.mem_append.1 hp with hp | hp
  · exact h p hp
  · exact h' p hp
theorem rtL_three {a b c d e f : Int} (ha : isB a) (hb : isB b) (hc : isB c) (hd : isB d) (he : isB e) (hf : isB f) : RtL [(a, b), (c, d), (e, f)] :=
  rtL_app (xs := [(a, b)]) (rtL_one ha hb) (rtL_app (xs := [(c, d)]) (rtL_one hc hd) (rtL_one he hf))
theorem isB_num (n : Nat) (h : n ≤ 255) : isB (n : Int) := ⟨by omega, by omega⟩
theorem opB {op : Int} (h : op ∈ [0, 1, 1, 1, 1, 1, 2, 3, 3, 4, 5, 6, 7, 8, 9, 10, 11, 12, 13, 14, 15, 16, 17]) : isB op := by
  simp only [List.mem_cons, List.not_mem_nil, or_false] at h
  unfold isB
  omega

set_option maxRecDepth 100000 in
set_option maxHeartbeats 4000000 in
theorem instrD (C B : Nat) (a : Option Addr) (len cap : Nat) (w : World) (hC : Cur w C a len cap) (hB : B ≤ C) (hcode : CodeOk w B a len) :
    Calls Try.prog 63 #[.pointer (some ⟨C, 0, none⟩)] w fun e w' => ∃ f s : Int, e = .returned (.agg #[.int .i64 f, .int .i64 s]) ∧ (isB f ∧ isB s) ∧ Drawn w w' C B a len cap := by
  have hlt := cur_lt hC
  have HD0 : Hid (Drawn w (w.alloc (.cells #[.int .i64 0, .int .i64 0] 51)) C B a len cap) := drawn_alloc ⟨hC, hcode, World.grownBy.refl _ _⟩ (by omega) _
  have HZ0 : Hid ((w.alloc (.cells #[.int .i64 0, .int .i64 0] 51)).heap[w.heap.size]? = some (.cells #[.int .i64 0, .int .i64 0] 51)) := heap_new w _
  have HDa : Hid (∀ o, Drawn w ((w.alloc (.cells #[.int .i64 0, .int .i64 0] 51)).alloc o) C B a len cap) := fun o => drawn_alloc HD0.out (by simp; omega) o
  have HZa : Hid (∀ o, ((w.alloc (.cells #[.int .i64 0, .int .i64 0] 51)).alloc o).heap[w.heap.size]? = some (.cells #[.int .i64 0, .int .i64 0] 51)) := fun o => (Below.heap_alloc _ _ _ (row_lt HZ0.out)).trans HZ0.out
  have HLI : Hid _ := laid_ints1 w (.cells #[.int .i64 0, .int .i64 0] 51) [0, 1, 1, 1, 1, 1, 2, 3, 3, 4, 5, 6, 7, 8, 9, 10, 11, 12, 13, 14, 15, 16, 17]
  clear hC hcode HD0 HZ0
  go_enter Try.func63, Try.ntmps63
  go_wp2_with fail
  refine (pick26' C B a len cap [0, 1, 1, 1, 1, 1, 2, 3, 3, 4, 5, 6, 7, 8, 9, 10, 11, 12, 13, 14, 15, 16, 17] 23 _ _ rfl (by omega) (by omega) _ (HDa.out _).1 hB (HDa.out _).2.1 (by omega) (by simp) HLI.out).mono ?_
  rintro e w1 ⟨op, rfl, hom, hD⟩
  have HOB : Hid (isB op) := opB hom
  clear hom
  have HD1 : Hid (Drawn w w1 C B a len cap) := drawn_trans (HDa.out _) hD
  have HZ1 : Hid (w1.heap[w.heap.size]? = some (.cells #[.int .i64 0, .int .i64 0] 51)) := row_drawn (HZa.out _) hD.2.2 (by omega)
  clear hD HDa HZa HLI
  go_wp2_with fail
  refine (below28 C B a len cap 4 (by omega) (by omega) _ HD1.out.1 hB HD1.out.2.1).mono ?_
  rintro e w2 ⟨arg, rfl, ha0, ha1, hD⟩
  have HAB : Hid (isB arg) := ⟨ha0, by omega⟩
  clear ha0 ha1
  have hs := hD.2.2.size
  have hs1 := row_lt HZ1.out
  have HI : Hid (DI w (w2.alloc (.cells #[.int .i64 op, .int .i64 arg] 51)) C B a len cap w2.heap.size op arg) :=
    ⟨drawn_alloc (drawn_trans HD1.out hD) (by omega) _, (Below.heap_alloc _ _ _ (by omega)).trans (row_drawn HZ1.out hD.2.2 (by omega)), heap_new w2 _, hlt, hB, by omega⟩
  have k1 := row2_cells HI.out.2.2.1
  clear hD HD1 HZ1
  have ways : op = 1 ∨ op = 9 ∨ op = 10 ∨ ((op == 1) = false ∧ (op == 9) = false ∧ (op == 10) = false) := by
    by_cases h1 : op = 1
    · exact .inl h1
    · by_cases h2 : op = 9
      · exact .inr (.inl h2)
      · by_cases h3 : op = 10
        · exact .inr (.inr (.inl h3))
        · exact .inr (.inr (.inr ⟨by simpa using h1, by simpa using h2, by simpa using h3⟩))
  rcases ways with rfl | rfl | rfl | ⟨g1, g2, g3⟩
  · skip
    go_wp2_with fail
    refine (below28 C B a len cap 8 (by omega) (by omega) _ HI.out.1.1 hB HI.out.1.2.1).mono ?_
    rintro e w5 ⟨z, rfl, hq0, hq1, hD⟩
    have HZB : Hid (isB z) := ⟨hq0, by omega⟩
    clear hq0 hq1
    have h5 := HI.out.on hD
    have k5 := row2_cells h5.2.2.1
    have HI5 : Hid (DI _ _ _ _ _ _ _ _ _ _) := h5.put1 z
    have k6 := row2_cells HI5.out.2.2.1
    clear hD HI h5 k1
    go_wp2_with fail
    refine (onceR C B a len cap 40 (by omega) (by omega) _ HI5.out.1.1 hB HI5.out.1.2.1).mono ?_
    rintro e w7 ⟨b, rfl, hD⟩
    have HJ : Hid (DI _ _ _ _ _ _ _ _ _ _) := HI5.out.on hD
    clear hD HI5
    cases b
    · have kk := row2_cells HJ.out.2.2.1
      have kz := row2_cells HJ.out.2.1
      have HF : Hid (Drawn _ _ _ _ _ _ _) := HJ.out.done
      clear HJ
      go_wp2
      refine bodyPost_ret (v := .agg #[.int .i64 1, .int .i64 z]) (by simp [results, Try.results63, go_sem, kz]) rfl ⟨1, z, rfl, ⟨isB_num 1 (by decide), HZB.out⟩, HF.out⟩
    · go_wp2_with fail
      refine (below28 C B a len cap 256 (by omega) (by omega) _ HJ.out.1.1 hB HJ.out.1.2.1).mono ?_
      rintro e w8 ⟨z8, rfl, hq0, hq1, hD⟩
      have HZ8 : Hid (isB z8) := ⟨hq0, by omega⟩
      clear hq0 hq1
      have h8 := HJ.out.on hD
      have k8 := row2_cells h8.2.2.1
      have HK : Hid (DI _ _ _ _ _ _ _ _ _ _) := h8.put0 z8
      have kk := row2_cells HK.out.2.2.1
      have kz := row2_cells HK.out.2.1
      have HF : Hid (Drawn _ _ _ _ _ _ _) := HK.out.done
      clear hD HJ h8 HK
      go_wp2
      refine bodyPost_ret (v := .agg #[.int .i64 z8, .int .i64 z]) (by simp [results, Try.results63, go_sem, kz]) rfl ⟨z8, z, rfl, ⟨HZ8.out, HZB.out⟩, HF.out⟩

  · skip
    go_wp2_with fail
    refine (below28 C B a len cap 14 (by omega) (by omega) _ HI.out.1.1 hB HI.out.1.2.1).mono ?_
    rintro e w5 ⟨z, rfl, hq0, hq1, hD⟩
    have HZB : Hid (isB z) := ⟨hq0, by omega⟩
    clear hq0 hq1
    have h5 := HI.out.on hD
    have k5 := row2_cells h5.2.2.1
    have HI5 : Hid (DI _ _ _ _ _ _ _ _ _ _) := h5.put1 z
    have k6 := row2_cells HI5.out.2.2.1
    clear hD HI h5 k1
    go_wp2_with fail
    refine (onceR C B a len cap 40 (by omega) (by omega) _ HI5.out.1.1 hB HI5.out.1.2.1).mono ?_
    rintro e w7 ⟨b, rfl, hD⟩
    have HJ : Hid (DI _ _ _ _ _ _ _ _ _ _) := HI5.out.on hD
    clear hD HI5
    cases b
    · have kk := row2_cells HJ.out.2.2.1
      have kz := row2_cells HJ.out.2.1
      have HF : Hid (Drawn _ _ _ _ _ _ _) := HJ.out.done
      clear HJ
      go_wp2
      refine bodyPost_ret (v := .agg #[.int .i64 9, .int .i64 z]) (by simp [results, Try.results63, go_sem, kz]) rfl ⟨9, z, rfl, ⟨isB_num 9 (by decide), HZB.out⟩, HF.out⟩
    · go_wp2_with fail
      refine (below28 C B a len cap 256 (by omega) (by omega) _ HJ.out.1.1 hB HJ.out.1.2.1).mono ?_
      rintro e w8 ⟨z8, rfl, hq0, hq1, hD⟩
      have HZ8 : Hid (isB z8) := ⟨hq0, by omega⟩
      clear hq0 hq1
      have h8 := HJ.out.on hD
      have k8 := row2_cells h8.2.2.1
      have HK : Hid (DI _ _ _ _ _ _ _ _ _ _) := h8.put0 z8
      have kk := row2_cells HK.out.2.2.1
      have kz := row2_cells HK.out.2.1
      have HF : Hid (Drawn _ _ _ _ _ _ _) := HK.out.done
      clear hD HJ h8 HK
      go_wp2
      refine bodyPost_ret (v := .agg #[.int .i64 z8, .int .i64 z]) (by simp [results, Try.results63, go_sem, kz]) rfl ⟨z8, z, rfl, ⟨HZ8.out, HZB.out⟩, HF.out⟩

  · skip
    go_wp2_with fail
    refine (below28 C B a len cap 14 (by omega) (by omega) _ HI.out.1.1 hB HI.out.1.2.1).mono ?_
    rintro e w5 ⟨z, rfl, hq0, hq1, hD⟩
    have HZB : Hid (isB z) := ⟨hq0, by omega⟩
    clear hq0 hq1
    have h5 := HI.out.on hD
    have k5 := row2_cells h5.2.2.1
    have HI5 : Hid (DI _ _ _ _ _ _ _ _ _ _) := h5.put1 z
    have k6 := row2_cells HI5.out.2.2.1
    clear hD HI h5 k1
    go_wp2_with fail
    refine (onceR C B a len cap 40 (by omega) (by omega) _ HI5.out.1.1 hB HI5.out.1.2.1).mono ?_
    rintro e w7 ⟨b, rfl, hD⟩
    have HJ : Hid (DI _ _ _ _ _ _ _ _ _ _) := HI5.out.on hD
    clear hD HI5
    cases b
    · have kk := row2_cells HJ.out.2.2.1
      have kz := row2_cells HJ.out.2.1
      have HF : Hid (Drawn _ _ _ _ _ _ _) := HJ.out.done
      clear HJ
      go_wp2
      refine bodyPost_ret (v := .agg #[.int .i64 10, .int .i64 z]) (by simp [results, Try.results63, go_sem, kz]) rfl ⟨10, z, rfl, ⟨isB_num 10 (by decide), HZB.out⟩, HF.out⟩
    · go_wp2_with fail
      refine (below28 C B a len cap 256 (by omega) (by omega) _ HJ.out.1.1 hB HJ.out.1.2.1).mono ?_
      rintro e w8 ⟨z8, rfl, hq0, hq1, hD⟩
      have HZ8 : Hid (isB z8) := ⟨hq0, by omega⟩
      clear hq0 hq1
      have h8 := HJ.out.on hD
      have k8 := row2_cells h8.2.2.1
      have HK : Hid (DI _ _ _ _ _ _ _ _ _ _) := h8.put0 z8
      have kk := row2_cells HK.out.2.2.1
      have kz := row2_cells HK.out.2.1
      have HF : Hid (Drawn _ _ _ _ _ _ _) := HK.out.done
      clear hD HJ h8 HK
      go_wp2
      refine bodyPost_ret (v := .agg #[.int .i64 z8, .int .i64 z]) (by simp [results, Try.results63, go_sem, kz]) rfl ⟨z8, z, rfl, ⟨HZ8.out, HZB.out⟩, HF.out⟩

  · skip
    go_wp2_with fail
    refine (onceR C B a len cap 40 (by omega) (by omega) _ HI.out.1.1 hB HI.out.1.2.1).mono ?_
    rintro e w7 ⟨b, rfl, hD⟩
    have HJ : Hid (DI _ _ _ _ _ _ _ _ _ _) := HI.out.on hD
    clear hD HI
    cases b
    · have kk := row2_cells HJ.out.2.2.1
      have kz := row2_cells HJ.out.2.1
      have HF : Hid (Drawn _ _ _ _ _ _ _) := HJ.out.done
      clear HJ
      go_wp2
      refine bodyPost_ret (v := .agg #[.int .i64 op, .int .i64 arg]) (by simp [results, Try.results63, go_sem, kz]) rfl ⟨op, arg, rfl, ⟨HOB.out, HAB.out⟩, HF.out⟩
    · go_wp2_with fail
      refine (below28 C B a len cap 256 (by omega) (by omega) _ HJ.out.1.1 hB HJ.out.1.2.1).mono ?_
      rintro e w8 ⟨z8, rfl, hq0, hq1, hD⟩
      have HZ8 : Hid (isB z8) := ⟨hq0, by omega⟩
      clear hq0 hq1
      have h8 := HJ.out.on hD
      have k8 := row2_cells h8.2.2.1
      have HK : Hid (DI _ _ _ _ _ _ _ _ _ _) := h8.put0 z8
      have kk := row2_cells HK.out.2.2.1
      have kz := row2_cells HK.out.2.1
      have HF : Hid (Drawn _ _ _ _ _ _ _) := HK.out.done
      clear hD HJ h8 HK
      go_wp2
      refine bodyPost_ret (v := .agg #[.int .i64 z8, .int .i64 arg]) (by simp [results, Try.results63, go_sem, kz]) rfl ⟨z8, arg, rfl, ⟨HZ8.out, HAB.out⟩, HF.out⟩


end Go.Proofs.Ythnocibkgpofnaa.I

namespace Go.Proofs.Ythnocibkgpofnaa.I
open D
open Go.RowKit Go.PlainAid
set_option linter.unusedVariables false

theorem app_drawn {w W w6 : World} {C B : Nat} {a : Option Addr} {len cap n : Nat} {v v' : Value} {xs ys : List (Int × Int)} {news : List Value} {o : Obj} (hD : Drawn w W C B a len cap) (hO : OwnI W w.heap.size v xs) (hlt : C < w.heap.size) (hB : B ≤ C)
    (hown' : w6.ownsRow w.heap.size 51 2 v' n (regsV xs ++ news)) (hgrow : (W.alloc o).grownBy w6 v.ownBlock) (hnews : news = regsV ys) (hn : n = xs.length + ys.length) :
    OwnI w6 w.heap.size v' (xs ++ ys) ∧ Drawn w w6 C B a len cap := by
  have hs := hD.2.2.size
  refine ⟨?_, drawn_grown (drawn_alloc hD (by omega) o) hgrow (own_ge hO) hlt (by omega)⟩
  subst hn hnews
  unfold OwnI
  rw [regsV_append, List.length_append]
  exact hown'

set_option maxRecDepth 100000 in
set_option maxHeartbeats 8000000 in
theorem codeD (C B : Nat) (a : Option Addr) (len cap : Nat) (w : World) (hC : Cur w C a len cap) (hB : B ≤ C) (hcode : CodeOk w B a len) :
    Calls Try.prog 38 #[.pointer (some ⟨C, 0, none⟩)] w fun e w' => ∃ (v : Value) (xs : List (Int × Int)), e = .returned v ∧ xs.length ≤ 46 ∧ RtL xs ∧ v ≠ .slice none 0 0 ∧ OwnI w' w.heap.size v xs ∧ Drawn w w' C B a len cap := by
  obtain ⟨i0, hi, hz0, hz1, hz2⟩ := info_parts infoR
  have hlt := cur_lt hC
  have HD0 : Hid (Drawn w (w.alloc (.cells #[] 51)) C B a len cap) := drawn_alloc ⟨hC, hcode, World.grownBy.refl _ _⟩ (by omega) _
  have HO0 : Hid (OwnI _ _ _ _) := ownI_empty w
  clear hC hcode
  go_enter Try.func38, Try.ntmps38
  go_wp2
  go_loopg [3, 4] 15 (fun gk v iv wr => ∃ (i : Nat) (xs : List (Int × Int)), i + gk = 15 ∧ iv = .int .i64 i ∧ xs.length ≤ 3 * i ∧ Hid (RtL xs) ∧ Hid (v ≠ .slice none 0 0) ∧ Hid (OwnI wr w.heap.size v xs) ∧ Hid (Drawn w wr C B a len cap))
  case atStart => exact ⟨0, [], by omega, rfl, by simp, rtL_nil, (show Hid _ from fun e => by cases e), HO0, HD0⟩
  case round =>
    clear HD0 HO0
    obtain ⟨i, xs, hi16, rfl, hxl, HT, HV, HO, HD⟩ := hrel
    go_wp2_with fail
    refine (below28 C B a len cap 16 (by omega) (by omega) _ HD.out.1 hB HD.out.2.1).mono ?_
    rintro e w2 ⟨x, rfl, x0, x1, hD⟩
    have HD2 : Hid (Drawn w w2 C B a len cap) := drawn_trans HD.out hD
    have HO2 : Hid (OwnI w2 w.heap.size _ xs) := own_gr HO.out hD.2.2 hlt
    clear hD HD HO

    by_cases hx : (i : Int) < x
    · have hi14 : i ≤ 14 := by omega
      go_wp2_with fail
      refine (below28 C B a len cap 6 (by omega) (by omega) _ HD2.out.1 hB HD2.out.2.1).mono ?_
      rintro e w3 ⟨y, rfl, y0, y1, hD⟩
      have HD3 : Hid (Drawn w w3 C B a len cap) := drawn_trans HD2.out hD
      have HO3 : Hid (OwnI w3 w.heap.size _ xs) := own_gr HO2.out hD.2.2 hlt
      clear hD HD2 HO2

      have ways : y = 0 ∨ y = 1 ∨ y = 2 ∨ ((y == 0) = false ∧ (y == 1) = false ∧ (y == 2) = false) := by
        by_cases h1 : y = 0
        · exact .inl h1
        · by_cases h2 : y = 1
          · exact .inr (.inl h2)
          · by_cases h3 : y = 2
            · exact .inr (.inr (.inl h3))
            · exact .inr (.inr (.inr ⟨by simpa using h1, by simpa using h2, by simpa using h3⟩))
      rcases ways with rfl | rfl | rfl | ⟨g1, g2, g3⟩
      · skip
        go_wp2_with fail
        refine (below28 C B a len cap 5 (by omega) (by omega) _ HD3.out.1 hB HD3.out.2.1).mono ?_
        rintro e w4 ⟨p, rfl, p0, p1, hD⟩
        have HD4 : Hid (Drawn w w4 C B a len cap) := drawn_trans HD3.out hD
        have HO4 : Hid (OwnI w4 w.heap.size _ xs) := own_gr HO3.out hD.2.2 hlt
        clear hD HD3 HO3
        go_wp2_with fail
        refine (below28 C B a len cap 9 (by omega) (by omega) _ HD4.out.1 hB HD4.out.2.1).mono ?_
        rintro e w5 ⟨q, rfl, q0, q1, hD⟩
        have HD5 : Hid (Drawn w w5 C B a len cap) := drawn_trans HD4.out hD
        have HO5 : Hid (OwnI w5 w.heap.size _ xs) := own_gr HO4.out hD.2.2 hlt
        clear hD HD4 HO4
        have hown : w5.ownsRow w.heap.size 51 2 _ xs.length (regsV xs) := HO5.out
        have sW := HD5.out.2.2.size
        go_wp2_with (at_builtin; refine wpList_append_own _ rfl _ _ 32 rfl w.heap.size 51 i0 (.agg #[.int .i64 0, .int .i64 0]) 2 16 Try.underlying32 hi hz0 hz1 hz2 rfl (by decide) _ _ _ rfl (hown.alloc _) ⟨w5.heap.size, 0, none⟩ 3 3 [.int .i64 1, .int .i64 p, .int .i64 1, .int .i64 q, .int .i64 3, .int .i64 0] rfl rfl ?c1a ?c2a ?c3a ?c4a ?c5a ?_)
        case c1a => exact World.news_of_block (cs := #[.int .i64 1, .int .i64 p, .int .i64 1, .int .i64 q, .int .i64 3, .int .i64 0]) (t := 51) (fr := (0, 0)) (heap_alloc_new w5 _)
        case c2a => simp [Value.oneCell']
        case c3a => unfold maxLen; omega
        case c4a => omega
        case c5a => simp; omega
        intro v' w9 hown9 hgrow hnil
        have HV' : Hid (v' ≠ .slice none 0 0) := by first | exact hnil | exact fun e => absurd (hnil.1 e).2 (by decide)
        have hR := app_drawn (ys := [(1, p), (1, q), (3, 0)]) HD5.out HO5.out hlt hB hown9 hgrow rfl rfl
        have HR : Hid (_ ∧ _) := hR
        have HLN : Hid ((xs ++ [(1, p), (1, q), (3, 0)]).length = xs.length + 3) := by show _ = _; simp
        clear hR hown9 hgrow hown hnil HD5 HO5
        go_wp2
        go_roundg (gk - 1)
        case measure => omega
        case rel => exact ⟨i + 1, xs ++ [(1, p), (1, q), (3, 0)], by omega, by go_num, by rw [HLN.out]; omega, rtL_app HT.out (rtL_three (isB_num 1 (by decide)) ⟨p0, by omega⟩ (isB_num 1 (by decide)) ⟨q0, by omega⟩ (isB_num 3 (by decide)) (isB_num 0 (by decide))), HV', HR.out.1, HR.out.2⟩

      · skip
        go_wp2_with fail
        refine (below28 C B a len cap 5 (by omega) (by omega) _ HD3.out.1 hB HD3.out.2.1).mono ?_
        rintro e w4 ⟨p, rfl, p0, p1, hD⟩
        have HD4 : Hid (Drawn w w4 C B a len cap) := drawn_trans HD3.out hD
        have HO4 : Hid (OwnI w4 w.heap.size _ xs) := own_gr HO3.out hD.2.2 hlt
        clear hD HD3 HO3
        go_wp2_with fail
        refine (below28 C B a len cap 2 (by omega) (by omega) _ HD4.out.1 hB HD4.out.2.1).mono ?_
        rintro e w5 ⟨q, rfl, q0, q1, hD⟩
        have HD5 : Hid (Drawn w w5 C B a len cap) := drawn_trans HD4.out hD
        have HO5 : Hid (OwnI w5 w.heap.size _ xs) := own_gr HO4.out hD.2.2 hlt
        clear hD HD4 HO4
        have hown : w5.ownsRow w.heap.size 51 2 _ xs.length (regsV xs) := HO5.out
        have sW := HD5.out.2.2.size
        go_wp2_with (at_builtin; refine wpList_append_own _ rfl _ _ 32 rfl w.heap.size 51 i0 (.agg #[.int .i64 0, .int .i64 0]) 2 16 Try.underlying32 hi hz0 hz1 hz2 rfl (by decide) _ _ _ rfl (hown.alloc _) ⟨w5.heap.size, 0, none⟩ 3 3 [.int .i64 1, .int .i64 p, .int .i64 2, .int .i64 0, .int .i64 16, .int .i64 q] rfl rfl ?c1b ?c2b ?c3b ?c4b ?c5b ?_)
        case c1b => exact World.news_of_block (cs := #[.int .i64 1, .int .i64 p, .int .i64 2, .int .i64 0, .int .i64 16, .int .i64 q]) (t := 51) (fr := (0, 0)) (heap_alloc_new w5 _)
        case c2b => simp [Value.oneCell']
        case c3b => unfold maxLen; omega
        case c4b => omega
        case c5b => simp; omega
        intro v' w9 hown9 hgrow hnil
        have HV' : Hid (v' ≠ .slice none 0 0) := by first | exact hnil | exact fun e => absurd (hnil.1 e).2 (by decide)
        have hR := app_drawn (ys := [(1, p), (2, 0), (16, q)]) HD5.out HO5.out hlt hB hown9 hgrow rfl rfl
        have HR : Hid (_ ∧ _) := hR
        have HLN : Hid ((xs ++ [(1, p), (2, 0), (16, q)]).length = xs.length + 3) := by show _ = _; simp
        clear hR hown9 hgrow hown hnil HD5 HO5
        go_wp2
        go_roundg (gk - 1)
        case measure => omega
        case rel => exact ⟨i + 1, xs ++ [(1, p), (2, 0), (16, q)], by omega, by go_num, by rw [HLN.out]; omega, rtL_app HT.out (rtL_three (isB_num 1 (by decide)) ⟨p0, by omega⟩ (isB_num 2 (by decide)) (isB_num 0 (by decide)) (isB_num 16 (by decide)) ⟨q0, by omega⟩), HV', HR.out.1, HR.out.2⟩

      · skip
        go_wp2_with fail
        refine (below28 C B a len cap 3 (by omega) (by omega) _ HD3.out.1 hB HD3.out.2.1).mono ?_
        rintro e w4 ⟨p, rfl, p0, p1, hD⟩
        have HD4 : Hid (Drawn w w4 C B a len cap) := drawn_trans HD3.out hD
        have HO4 : Hid (OwnI w4 w.heap.size _ xs) := own_gr HO3.out hD.2.2 hlt
        clear hD HD3 HO3
        go_wp2_with fail
        refine (below28 C B a len cap 3 (by omega) (by omega) _ HD4.out.1 hB HD4.out.2.1).mono ?_
        rintro e w5 ⟨q, rfl, q0, q1, hD⟩
        have HD5 : Hid (Drawn w w5 C B a len cap) := drawn_trans HD4.out hD
        have HO5 : Hid (OwnI w5 w.heap.size _ xs) := own_gr HO4.out hD.2.2 hlt
        clear hD HD4 HO4
        have hown : w5.ownsRow w.heap.size 51 2 _ xs.length (regsV xs) := HO5.out
        have sW := HD5.out.2.2.size
        go_wp2_with (at_builtin; refine wpList_append_own _ rfl _ _ 32 rfl w.heap.size 51 i0 (.agg #[.int .i64 0, .int .i64 0]) 2 16 Try.underlying32 hi hz0 hz1 hz2 rfl (by decide) _ _ _ rfl (hown.alloc _) ⟨w5.heap.size, 0, none⟩ 3 3 [.int .i64 15, .int .i64 p, .int .i64 13, .int .i64 q, .int .i64 12, .int .i64 0] rfl rfl ?c1c ?c2c ?c3c ?c4c ?c5c ?_)
        case c1c => exact World.news_of_block (cs := #[.int .i64 15, .int .i64 p, .int .i64 13, .int .i64 q, .int .i64 12, .int .i64 0]) (t := 51) (fr := (0, 0)) (heap_alloc_new w5 _)
        case c2c => simp [Value.oneCell']
        case c3c => unfold maxLen; omega
        case c4c => omega
        case c5c => simp; omega
        intro v' w9 hown9 hgrow hnil
        have HV' : Hid (v' ≠ .slice none 0 0) := by first | exact hnil | exact fun e => absurd (hnil.1 e).2 (by decide)
        have hR := app_drawn (ys := [(15, p), (13, q), (12, 0)]) HD5.out HO5.out hlt hB hown9 hgrow rfl rfl
        have HR : Hid (_ ∧ _) := hR
        have HLN : Hid ((xs ++ [(15, p), (13, q), (12, 0)]).length = xs.length + 3) := by show _ = _; simp
        clear hR hown9 hgrow hown hnil HD5 HO5
        go_wp2
        go_roundg (gk - 1)
        case measure => omega
        case rel => exact ⟨i + 1, xs ++ [(15, p), (13, q), (12, 0)], by omega, by go_num, by rw [HLN.out]; omega, rtL_app HT.out (rtL_three (isB_num 15 (by decide)) ⟨p0, by omega⟩ (isB_num 13 (by decide)) ⟨q0, by omega⟩ (isB_num 12 (by decide)) (isB_num 0 (by decide))), HV', HR.out.1, HR.out.2⟩

      · go_wp2_with fail
        refine (instrD C B a len cap _ HD3.out.1 hB HD3.out.2.1).mono ?_
        rintro e w4 ⟨f, s, rfl, hfs0, hD⟩
        have hfs : Hid (isB f ∧ isB s) := hfs0
        clear hfs0
        have HD4 : Hid (Drawn w w4 C B a len cap) := drawn_trans HD3.out hD
        have HO4 : Hid (OwnI w4 w.heap.size _ xs) := own_gr HO3.out hD.2.2 hlt
        clear hD HD3 HO3
        have hown : w4.ownsRow w.heap.size 51 2 _ xs.length (regsV xs) := HO4.out
        have sW := HD4.out.2.2.size
        go_wp2_with (at_builtin; refine wpList_append_own _ rfl _ _ 32 rfl w.heap.size 51 i0 (.agg #[.int .i64 0, .int .i64 0]) 2 16 Try.underlying32 hi hz0 hz1 hz2 rfl (by decide) _ _ _ rfl (hown.alloc _) ⟨w4.heap.size, 0, none⟩ 1 1 [.int .i64 f, .int .i64 s] rfl rfl ?c1d ?c2d ?c3d ?c4d ?c5d ?_)
        case c1d => exact World.news_of_block (cs := #[.int .i64 f, .int .i64 s]) (t := 51) (fr := (0, 0)) (heap_alloc_new w4 _)
        case c2d => simp [Value.oneCell']
        case c3d => unfold maxLen; omega
        case c4d => omega
        case c5d => simp; omega
        intro v' w9 hown9 hgrow hnil
        have HV' : Hid (v' ≠ .slice none 0 0) := by first | exact hnil | exact fun e => absurd (hnil.1 e).2 (by decide)
        have hR := app_drawn (ys := [(f, s)]) HD4.out HO4.out hlt hB hown9 hgrow rfl rfl
        have HR : Hid (_ ∧ _) := hR
        have HLN : Hid ((xs ++ [(f, s)]).length = xs.length + 1) := by show _ = _; simp
        clear hR hown9 hgrow hown hnil HD4 HO4
        go_wp2
        go_roundg (gk - 1)
        case measure => omega
        case rel => exact ⟨i + 1, xs ++ [(f, s)], by omega, by go_num, by rw [HLN.out]; omega, rtL_app HT.out (rtL_one hfs.out.1 hfs.out.2), HV', HR.out.1, HR.out.2⟩

    · go_wp2_with fail
      refine (onceR C B a len cap 2 (by omega) (by omega) _ HD2.out.1 hB HD2.out.2.1).mono ?_
      rintro e w3 ⟨b, rfl, hD⟩
      have HD3 : Hid (Drawn w w3 C B a len cap) := drawn_trans HD2.out hD
      have HO3 : Hid (OwnI w3 w.heap.size _ xs) := own_gr HO2.out hD.2.2 hlt
      have hx45 : xs.length ≤ 45 := by omega
      clear hD HD2 HO2
      cases b
      · go_wp2
        go_ret
        exact ⟨_, xs, rfl, by omega, HT.out, HV.out, HO3.out, HD3.out⟩
      · skip
        have hown : w3.ownsRow w.heap.size 51 2 _ xs.length (regsV xs) := HO3.out
        have sW := HD3.out.2.2.size
        go_wp2_with (at_builtin; refine wpList_append_own _ rfl _ _ 32 rfl w.heap.size 51 i0 (.agg #[.int .i64 0, .int .i64 0]) 2 16 Try.underlying32 hi hz0 hz1 hz2 rfl (by decide) _ _ _ rfl (hown.alloc _) ⟨w3.heap.size, 0, none⟩ 1 1 [.int .i64 0, .int .i64 0] rfl rfl ?c1e ?c2e ?c3e ?c4e ?c5e ?_)
        case c1e => exact World.news_of_block (cs := #[.int .i64 0, .int .i64 0]) (t := 51) (fr := (0, 0)) (heap_alloc_new w3 _)
        case c2e => simp [Value.oneCell']
        case c3e => unfold maxLen; omega
        case c4e => omega
        case c5e => simp; omega
        intro v' w9 hown9 hgrow hnil
        have HV' : Hid (v' ≠ .slice none 0 0) := by first | exact hnil | exact fun e => absurd (hnil.1 e).2 (by decide)
        have hR := app_drawn (ys := [(0, 0)]) HD3.out HO3.out hlt hB hown9 hgrow rfl rfl
        have HR : Hid (_ ∧ _) := hR
        have HLN : Hid ((xs ++ [(0, 0)]).length = xs.length + 1) := by show _ = _; simp
        clear hR hown9 hgrow hown hnil HD3 HO3
        go_wp2
        go_ret
        exact ⟨_, xs ++ [(0, 0)], rfl, by rw [HLN.out]; omega, rtL_app HT.out (rtL_one (isB_num 0 (by decide)) (isB_num 0 (by decide))), HV'.out, HR.out.1, HR.out.2⟩

end Go.Proofs.Ythnocibkgpofnaa.I

namespace Go.Proofs.Ythnocibkgpofnaa.I
open D
open Go.RowKit Go.PlainAid
set_option linter.unusedVariables false

theorem own_nn {w : World} {B : Nat} {v : Value} {xs : List (Int × Int)} (h : OwnI w B v xs) (hv : v ≠ .slice none 0 0) : ∃ g c, v = .slice (some ⟨g, 0, none⟩) xs.length c := by
  rcases h.2 with ⟨rfl, _⟩ | ⟨g, cap, cur, rfl, _⟩
  · exact absurd rfl hv
  · exact ⟨g, cap, rfl⟩
theorem laid_ints0 (w : World) (l : List Int) (j : Nat) (hj : j < l.length) : (w.alloc (.cells (l.map (Value.int .i64)).toArray 3)).cell? ⟨w.heap.size, j, none⟩ = some (.int .i64 l[j]) := laid_ints w l j hj

set_option maxRecDepth 100000 in
set_option maxHeartbeats 8000000 in
theorem anyD (C B : Nat) (a : Option Addr) (len cap : Nat) (w : World) (hC : Cur w C a len cap) (hB : B ≤ C) (hcode : CodeOk w B a len) :
    Calls Try.prog 50 #[.pointer (some ⟨C, 0, none⟩)] w fun e w' => ∃ (v : Value) (xs : List (Int × Int)), e = .returned v ∧ xs.length ≤ 61 ∧ OwnI w' w.heap.size v xs ∧ Drawn w w' C B a len cap := by
  obtain ⟨i0, hi, hz0, hz1, hz2⟩ := info_parts infoR
  have hlt := cur_lt hC
  have HD0 : Hid (Drawn w (w.alloc (.cells #[] 51)) C B a len cap) := drawn_alloc ⟨hC, hcode, World.grownBy.refl _ _⟩ (by omega) _
  have HO0 : Hid (OwnI (w.alloc (.cells #[] 51)) w.heap.size (.slice (some ⟨w.heap.size, 0, none⟩) 0 0) []) := ownI_empty w
  clear hC hcode
  go_enter Try.func50, Try.ntmps50
  go_wp2_with fail
  refine (codeD C B a len cap _ HD0.out.1 hB HD0.out.2.1).mono ?_
  rintro e w1 ⟨v, xs, rfl, hxl, _, hvn, hox, hD⟩
  obtain ⟨g, c, hv⟩ := own_nn hox hvn
  subst hv
  have HD1 : Hid (Drawn w w1 C B a len cap) := drawn_trans HD0.out hD
  have hown : w1.ownsRow w.heap.size 51 2 (.slice (some ⟨w.heap.size, 0, none⟩) 0 0) 0 (regsV []) := own_gr HO0.out hD.2.2 hlt
  have hnews : ∀ j u, (regsV xs)[j]? = some u → w1.cell? ((⟨g, 0, none⟩ : Addr).add j) = some u := World.ownsRow.cells hox rfl
  have s1 := HD1.out.2.2.size
  clear hD HD0 HO0 hvn
  go_wp2_with (at_builtin; refine wpList_append_own _ rfl _ _ 32 rfl w.heap.size 51 i0 (.agg #[.int .i64 0, .int .i64 0]) 2 16 Try.underlying32 hi hz0 hz1 hz2 rfl (by decide) _ _ _ rfl hown ⟨g, 0, none⟩ xs.length c (regsV xs) rfl (regsV_len xs) hnews (regsV_one xs) ?c3 ?c4 ?c5 ?_)
  case c3 => unfold maxLen; omega
  case c4 => omega
  case c5 => omega
  intro v2 w2 hown2 hgrow _
  have HO2 : Hid (OwnI w2 w.heap.size v2 xs) := by
    exact hown2
  have HD2 : Hid (Drawn w w2 C B a len cap) := drawn_grown HD1.out hgrow (own_ge hown) hlt (by omega)
  clear hown hown2 hgrow hnews hox HD1
  go_wp2_with fail
  refine (below28 C B a len cap 12 (by omega) (by omega) _ HD2.out.1 hB HD2.out.2.1).mono ?_
  rintro e w4 ⟨y, rfl, y0, y1, hD⟩
  have HD4 : Hid (Drawn w w4 C B a len cap) := drawn_trans HD2.out hD
  have HO4 : Hid (OwnI w4 w.heap.size _ xs) := own_gr HO2.out hD.2.2 hlt
  clear hD HD2 HO2

  have s4 := HD4.out.2.2.size
  have ways : y = 0 ∨ y = 1 ∨ y = 2 ∨ ((y == 0) = false ∧ (y == 1) = false ∧ (y == 2) = false) := by
    by_cases h1 : y = 0
    · exact .inl h1
    · by_cases h2 : y = 1
      · exact .inr (.inl h2)
      · by_cases h3 : y = 2
        · exact .inr (.inr (.inl h3))
        · exact .inr (.inr (.inr ⟨by simpa using h1, by simpa using h2, by simpa using h3⟩))
  rcases ways with rfl | rfl | rfl | ⟨g1, g2, g3⟩
  · skip
    have HDa : Hid (∀ o, Drawn w (w4.alloc o) C B a len cap) := fun o => drawn_alloc HD4.out (by omega) o
    have HOa : Hid (∀ o, OwnI (w4.alloc o) w.heap.size v2 xs) := fun o => HO4.out.alloc o
    have HLI : Hid _ := laid_ints0 w4 [-1, 255, 256]
    have sC := cur_lt HD4.out.1
    clear HD4 HO4
    go_wp2_with fail
    refine (pick26' C B a len cap [-1, 255, 256] 3 _ _ rfl (by omega) (by omega) _ (HDa.out _).1 hB (HDa.out _).2.1 (by omega) (by simp) HLI.out).mono ?_
    rintro e w5 ⟨z, rfl, _, hD⟩
    have HD5 : Hid (Drawn w w5 C B a len cap) := drawn_trans (HDa.out _) hD
    have HO5 : Hid (OwnI w5 w.heap.size v2 xs) := own_gr (HOa.out _) hD.2.2 hlt
    clear hD HDa HOa HLI
    have hown : w5.ownsRow w.heap.size 51 2 _ xs.length (regsV xs) := HO5.out
    have sW := HD5.out.2.2.size
    go_wp2_with (at_builtin; refine wpList_append_own _ rfl _ _ 32 rfl w.heap.size 51 i0 (.agg #[.int .i64 0, .int .i64 0]) 2 16 Try.underlying32 hi hz0 hz1 hz2 rfl (by decide) _ _ _ rfl (hown.alloc _) ⟨w5.heap.size, 0, none⟩ 1 1 [.int .i64 z, .int .i64 1] rfl rfl ?c1a ?c2a ?c3a ?c4a ?c5a ?_)
    case c1a => exact World.news_of_block (cs := #[.int .i64 z, .int .i64 1]) (t := 51) (fr := (0, 0)) (heap_alloc_new w5 _)
    case c2a => simp [Value.oneCell']
    case c3a => unfold maxLen; omega
    case c4a => omega
    case c5a => simp; omega
    intro v' w9 hown9 hgrow hnil
    have HV' : Hid (v' ≠ .slice none 0 0) := by first | exact hnil | exact fun e => absurd (hnil.1 e).2 (by decide)
    have hR := app_drawn (ys := [(z, 1)]) HD5.out HO5.out hlt hB hown9 hgrow rfl rfl
    have HR : Hid (_ ∧ _) := hR
    have HLN : Hid ((xs ++ [(z, 1)]).length = xs.length + 1) := by show _ = _; simp
    clear hR hown9 hgrow hown hnil HD5 HO5
    go_wp2
    go_ret
    exact ⟨_, xs ++ [(z, 1)], rfl, by rw [HLN.out]; omega, HR.out.1, HR.out.2⟩

  · skip
    have HDa : Hid (∀ o, Drawn w (w4.alloc o) C B a len cap) := fun o => drawn_alloc HD4.out (by omega) o
    have HOa : Hid (∀ o, OwnI (w4.alloc o) w.heap.size v2 xs) := fun o => HO4.out.alloc o
    have HLI : Hid _ := laid_ints0 w4 [-1, 255, 256]
    have sC := cur_lt HD4.out.1
    clear HD4 HO4
    go_wp2_with fail
    refine (pick26' C B a len cap [-1, 255, 256] 3 _ _ rfl (by omega) (by omega) _ (HDa.out _).1 hB (HDa.out _).2.1 (by omega) (by simp) HLI.out).mono ?_
    rintro e w5 ⟨z, rfl, _, hD⟩
    have HD5 : Hid (Drawn w w5 C B a len cap) := drawn_trans (HDa.out _) hD
    have HO5 : Hid (OwnI w5 w.heap.size v2 xs) := own_gr (HOa.out _) hD.2.2 hlt
    clear hD HDa HOa HLI
    have hown : w5.ownsRow w.heap.size 51 2 _ xs.length (regsV xs) := HO5.out
    have sW := HD5.out.2.2.size
    go_wp2_with (at_builtin; refine wpList_append_own _ rfl _ _ 32 rfl w.heap.size 51 i0 (.agg #[.int .i64 0, .int .i64 0]) 2 16 Try.underlying32 hi hz0 hz1 hz2 rfl (by decide) _ _ _ rfl (hown.alloc _) ⟨w5.heap.size, 0, none⟩ 1 1 [.int .i64 1, .int .i64 z] rfl rfl ?c1b ?c2b ?c3b ?c4b ?c5b ?_)
    case c1b => exact World.news_of_block (cs := #[.int .i64 1, .int .i64 z]) (t := 51) (fr := (0, 0)) (heap_alloc_new w5 _)
    case c2b => simp [Value.oneCell']
    case c3b => unfold maxLen; omega
    case c4b => omega
    case c5b => simp; omega
    intro v' w9 hown9 hgrow hnil
    have HV' : Hid (v' ≠ .slice none 0 0) := by first | exact hnil | exact fun e => absurd (hnil.1 e).2 (by decide)
    have hR := app_drawn (ys := [(1, z)]) HD5.out HO5.out hlt hB hown9 hgrow rfl rfl
    have HR : Hid (_ ∧ _) := hR
    have HLN : Hid ((xs ++ [(1, z)]).length = xs.length + 1) := by show _ = _; simp
    clear hR hown9 hgrow hown hnil HD5 HO5
    go_wp2
    go_ret
    exact ⟨_, xs ++ [(1, z)], rfl, by rw [HLN.out]; omega, HR.out.1, HR.out.2⟩

  · obtain ⟨q0, c0, hv0, _⟩ := HO4.out.rd
    subst hv0
    go_wp2
    go_loopg [3] (61 - xs.length) (fun gk v wr => ∃ (ys : List (Int × Int)) (q : Option Addr) (c : Nat), ys.length ≤ 61 ∧ ys.length + gk = 61 ∧ v = .slice q ys.length c ∧ Hid (OwnI wr w.heap.size v ys) ∧ Hid (Drawn w wr C B a len cap))
    case atStart => exact ⟨xs, q0, c0, by omega, by omega, rfl, HO4, HD4⟩
    case round =>
      clear HO4 HD4 hxl s4
      obtain ⟨xs, q, c, hx1, hx2, rfl, HO, HD⟩ := hrel
      go_wp2_with fail
      refine (below28 C B a len cap 2 (by omega) (by omega) _ HD.out.1 hB HD.out.2.1).mono ?_
      rintro e w5 ⟨x, rfl, x0, x1, hD⟩
      have HD5 : Hid (Drawn w w5 C B a len cap) := drawn_trans HD.out hD
      have HO5 : Hid (OwnI w5 w.heap.size _ xs) := own_gr HO.out hD.2.2 hlt
      clear hD HD HO

      by_cases hx : (xs.length : Int) < 60 + x
      · have hx60 : xs.length ≤ 60 := by omega
        have hown : w5.ownsRow w.heap.size 51 2 _ xs.length (regsV xs) := HO5.out
        have sW := HD5.out.2.2.size
        go_wp2_with (at_builtin; refine wpList_append_own _ rfl _ _ 32 rfl w.heap.size 51 i0 (.agg #[.int .i64 0, .int .i64 0]) 2 16 Try.underlying32 hi hz0 hz1 hz2 rfl (by decide) _ _ _ rfl (hown.alloc _) ⟨w5.heap.size, 0, none⟩ 1 1 [.int .i64 17, .int .i64 0] rfl rfl ?c1c ?c2c ?c3c ?c4c ?c5c ?_)
        case c1c => exact World.news_of_block (cs := #[.int .i64 17, .int .i64 0]) (t := 51) (fr := (0, 0)) (heap_alloc_new w5 _)
        case c2c => simp [Value.oneCell']
        case c3c => unfold maxLen; omega
        case c4c => omega
        case c5c => simp; omega
        intro v' w9 hown9 hgrow hnil
        have HV' : Hid (v' ≠ .slice none 0 0) := by first | exact hnil | exact fun e => absurd (hnil.1 e).2 (by decide)
        have hR := app_drawn (ys := [(17, 0)]) HD5.out HO5.out hlt hB hown9 hgrow rfl rfl
        have HR : Hid (_ ∧ _) := hR
        have HLN : Hid ((xs ++ [(17, 0)]).length = xs.length + 1) := by show _ = _; simp
        clear hR hown9 hgrow hown hnil HD5 HO5
        have hO := HR.out.1
        obtain ⟨q', c', hv', _⟩ := hO.rd
        have HO' : Hid (OwnI w9 w.heap.size v' (xs ++ [(17, 0)])) := hO
        clear hO
        go_wp2
        go_roundg (gk - 1)
        case measure => omega
        case rel => exact ⟨xs ++ [(17, 0)], q', c', by rw [HLN.out]; omega, by rw [HLN.out]; omega, hv', HO', HR.out.2⟩

      · go_wp2
        go_ret
        exact ⟨_, xs, rfl, by omega, HO5.out, HD5.out⟩
  · go_wp2
    go_ret
    exact ⟨_, xs, rfl, by omega, HO4.out, HD4.out⟩
end Go.Proofs.Ythnocibkgpofnaa.I

namespace Go.Proofs.Ythnocibkgpofnaa.I
open Go.RowKit Go.PlainAid
set_option linter.unusedVariables false

def goes (op : Int) : Prop := op = 9 ∨ op = 10
/-- code is right, and each jump goes to a place behind it -/
def FwdR (rl : List (Int × Int)) : Prop := CodeR rl ∧ ∀ i (h : i < rl.length), goes rl[i].1 → (i : Int) < rl[i].2
def FwdTo (rl : List (Int × Int)) (j : Nat) : Prop := ∀ i (h : i < rl.length), i < j → goes rl[i].1 → (i : Int) < rl[i].2
theorem fwd_zero (rl : List (Int × Int)) : FwdTo rl 0 := fun i _ h => by omega
theorem fwd_succ {rl : List (Int × Int)} {j : Nat} (h : FwdTo rl j) (hj : j < rl.length) (hr : goes rl[j].1 → (j : Int) < rl[j].2) : FwdTo rl (j + 1) := fun i hi hlt => by
  by_cases e : i = j
  · subst e; exact hr
  · exact h i hi (by omega)
theorem fwd_bool (rl : List (Int × Int)) : ∃ b : Bool, b = true ↔ FwdR rl := by
  by_cases hk : FwdR rl
  · exact ⟨true, ⟨fun _ => hk, fun _ => rfl⟩⟩
  · exact ⟨false, ⟨fun h => (by cases h), fun h => absurd h hk⟩⟩
theorem not_fwd {rl : List (Int × Int)} {b : Bool} (hb : b = true ↔ FwdR rl) (h : ¬ FwdR rl) : b = false := by
  cases b
  · rfl
  · exact absurd (hb.1 rfl) h
theorem goes_ways (op : Int) : op = 9 ∨ op = 10 ∨ ((op == 9) = false ∧ (op == 10) = false) := by
  by_cases h1 : op = 9
  · exact .inl h1
  · by_cases h2 : op = 10
    · exact .inr (.inl h2)
    · exact .inr (.inr ⟨by simpa using h1, by simpa using h2⟩)

theorem isJumpI (op : Int) (b : Bool) (hb : b = true ↔ goes op) (w : World) : Calls Try.prog 47 #[.int .i64 op] w fun e w' => e = .returned (.bool b) ∧ w' = w := by
  rcases goes_ways op with rfl | rfl | ⟨h1, h2⟩
  · obtain rfl : b = true := hb.2 (.inl rfl)
    clear hb
    go_enter Try.func47, Try.ntmps47
    go_wp2
    go_ret
    exact ⟨rfl, rfl⟩
  · obtain rfl : b = true := hb.2 (.inr rfl)
    clear hb
    go_enter Try.func47, Try.ntmps47
    go_wp2
    go_ret
    exact ⟨rfl, rfl⟩
  · obtain rfl : b = false := by
      cases b
      · rfl
      · rcases hb.1 rfl with h | h
        · subst h; simp at h1
        · subst h; simp at h2
    clear hb
    go_enter Try.func47, Try.ntmps47
    go_wp2
    go_ret
    exact ⟨rfl, rfl⟩

theorem goesS (op arg : Int) (b : Bool) (hb : b = true ↔ goes op) (w : World) : Calls Try.prog 39 #[.agg #[.int .i64 op, .int .i64 arg]] w fun e w' => e = .returned (.bool b) ∧ Below w.heap.size w w' := by
  have HW : Hid (Below w.heap.size w (w.alloc (.cells #[.int .i64 op, .int .i64 arg] 51))) := (Below.refl _ _).alloc (Nat.le_refl _) _
  rcases goes_ways op with rfl | rfl | ⟨h1, h2⟩
  · obtain rfl : b = true := hb.2 (.inl rfl)
    clear hb
    go_enter Try.func39, Try.ntmps39
    go_wp2
    go_ret
    exact ⟨rfl, HW.out⟩
  · obtain rfl : b = true := hb.2 (.inr rfl)
    clear hb
    go_enter Try.func39, Try.ntmps39
    go_wp2
    go_ret
    exact ⟨rfl, HW.out⟩
  · obtain rfl : b = false := by
      cases b
      · rfl
      · rcases hb.1 rfl with h | h
        · subst h; simp at h1
        · subst h; simp at h2
    clear hb
    go_enter Try.func39, Try.ntmps39
    go_wp2
    go_ret
    exact ⟨rfl, HW.out⟩
theorem goes_bool (op : Int) : ∃ b : Bool, b = true ↔ goes op := by
  by_cases hk : goes op
  · exact ⟨true, ⟨fun _ => hk, fun _ => rfl⟩⟩
  · exact ⟨false, ⟨fun h => (by cases h), fun h => absurd h hk⟩⟩

set_option maxRecDepth 100000 in
set_option maxHeartbeats 2000000 in
theorem forwardI (a : Option Addr) (rl : List (Int × Int)) (n cap : Nat) (b : Bool) (hl : rl.length = n) (hn : n ≤ 9223372036854775807) (hb : b = true ↔ FwdR rl) (w : World) (hr : RdR w a rl) :
    Calls Try.prog 21 #[.slice a n cap] w fun e w' => e = .returned (.bool b) ∧ Below w.heap.size w w' := by
  have HB : Hid (b = true ↔ FwdR rl) := hb
  have HL : Hid (rl.length = n) := hl
  have HR : Hid (RdR w a rl) := hr
  obtain ⟨c, hc⟩ := code_bool rl
  have HCB : Hid (c = true ↔ CodeR rl) := hc
  clear hb hl hr hc
  go_enter Try.func21, Try.ntmps21
  go_wp2
  refine wp_scope_jumps 0 (fun a' w' => (∃ u0_ u1_ u2_ u3_ u4_ u5_ u6_ u7_ u8_ u9_ u10_ u11_ u12_ u13_ u14_ u15_ u16_ u17_ u18_ u19_ u20_ u21_ u22_ u23_ u24_ u25_ u26_ u27_ : Value, a' = ⟨#[u0_, u1_, u2_, u3_, u4_, u5_, u6_, u7_, u8_, u9_, u10_, u11_, u12_, u13_, u14_, u15_, u16_, u17_, u18_, u19_, u20_, u21_, u22_, u23_, u24_, u25_, u26_, u27_], List.nil⟩) ∧ Below w.heap.size w w' ∧ b = false) (fun _ _ => 0) rfl ?_ ?_
  · go_wp2_with fail
    refine (codeokI a rl n cap c HL.out hn HCB.out _ HR.out).mono ?_
    rintro e w1 ⟨rfl, hb1⟩
    have HW1 : Hid (Below w.heap.size w w1) := hb1
    clear hb1
    cases c
    · have HE : Hid (b = false) := not_fwd HB.out (fun h => by have := HCB.out.2 h.1; cases this)
      go_wp2
      simp only [Exit.jump]
      go_ret
      exact ⟨by rw [HE.out]; rfl, HW1.out⟩
    · have HK : Hid (CodeR rl) := HCB.out.1 rfl
      clear HCB
      go_wp2
      go_loopg [9] n (fun gk i wr => ∃ j : Nat, j + gk = n ∧ i = .int .i64 j ∧ Hid (FwdTo rl j) ∧ Hid (Below w.heap.size w wr))
      case atStart => exact ⟨0, by omega, rfl, fwd_zero rl, HW1⟩
      case round =>
        obtain ⟨j, hj, rfl, HI, HW⟩ := hrel
        clear HW1
        by_cases hlt : j < n
        · have hjl : j < rl.length := by have := HL.out; omega
          obtain ⟨g, off, rfl, hc⟩ := HR.out (by omega)
          have hgl : g < w.heap.size := World.block_lt_of_cell? w ⟨g, off + 0 * 2, none⟩ (hc 0 (by omega)).1
          have c0 := hc j hjl
          have c1 := (HW.out.cell (p := ⟨g, off + j * 2, none⟩) hgl).trans c0.1
          have c2 := (HW.out.cell (p := ⟨g, off + j * 2 + 1, none⟩) hgl).trans c0.2
          clear c0 hc
          obtain ⟨f, hf⟩ : ∃ f, rl[j].1 = f := ⟨_, rfl⟩
          obtain ⟨s, hs⟩ : ∃ s, rl[j].2 = s := ⟨_, rfl⟩
          rw [hf] at c1
          rw [hs] at c2
          have HF : Hid (rl[j].1 = f ∧ rl[j].2 = s) := ⟨hf, hs⟩
          clear hf hs
          obtain ⟨d, hd⟩ := goes_bool f
          go_wp2_with fail
          refine (isJumpI f d hd _).mono ?_
          rintro e w2 ⟨rfl, rfl⟩
          cases d
          · have HI' : Hid (FwdTo rl (j + 1)) := fwd_succ HI.out hjl (fun h => by rw [HF.out.1] at h; have := hd.2 h; cases this)
            clear hd HI
            go_wp2
            go_roundg (gk - 1)
            case measure => omega
            case rel => exact ⟨j + 1, by omega, by go_num, HI', HW⟩
          · have hg : Hid (goes f) := hd.1 rfl
            clear hd
            by_cases hs : s ≤ (j : Int)
            · have HE : Hid (b = false) := not_fwd HB.out (fun h => by have := h.2 j hjl (by rw [HF.out.1]; exact hg.out); rw [HF.out.2] at this; omega)
              go_wp2
              go_step3
              refine ⟨rfl, ⟨_, _, _, _, _, _, _, _, _, _, _, _, _, _, _, _, _, _, _, _, _, _, _, _, _, _, _, _, rfl⟩, HW.out, HE.out⟩
            · have HI' : Hid (FwdTo rl (j + 1)) := fwd_succ HI.out hjl (fun h => by rw [HF.out.2]; omega)
              clear HI
              go_wp2
              go_roundg (gk - 1)
              case measure => omega
              case rel => exact ⟨j + 1, by omega, by go_num, HI', HW⟩
        · have HE : Hid (b = true) := HB.out.2 ⟨HK.out, fun i h => HI.out i h (by have := HL.out; omega)⟩
          go_wp2
          simp only [Exit.jump]
          go_ret
          exact ⟨by rw [HE.out]; rfl, HW.out⟩
  · rintro a' w' ⟨⟨u0_, u1_, u2_, u3_, u4_, u5_, u6_, u7_, u8_, u9_, u10_, u11_, u12_, u13_, u14_, u15_, u16_, u17_, u18_, u19_, u20_, u21_, u22_, u23_, u24_, u25_, u26_, u27_, rfl⟩, hbJ, hbf⟩
    have HW : Hid (Below w.heap.size w w') := hbJ
    have HE : Hid (b = false) := hbf
    clear hbJ hbf
    go_wp2
    simp only [Exit.jump]
    go_ret
    exact ⟨by rw [HE.out]; rfl, HW.out⟩

set_option maxRecDepth 100000 in
set_option maxHeartbeats 2000000 in
theorem forwardS (a : Option Addr) (rl : List (Int × Int)) (n cap : Nat) (b : Bool) (hl : rl.length = n) (hn : n ≤ 9223372036854775807) (hb : b = true ↔ FwdR rl) (w : World) (hr : RdR w a rl) :
    Calls Try.prog 25 #[.slice a n cap] w fun e w' => e = .returned (.bool b) ∧ Below w.heap.size w w' := by
  have HB : Hid (b = true ↔ FwdR rl) := hb
  have HL : Hid (rl.length = n) := hl
  have HR : Hid (RdR w a rl) := hr
  clear hb hl hr
  go_enter Try.func25, Try.ntmps25
  go_wp2
  go_loopg [3] n (fun gk i wr => ∃ j : Nat, j + gk = n ∧ i = .int .i64 j ∧ Hid (FwdTo rl j) ∧ Hid (Below w.heap.size w wr))
  case atStart => exact ⟨0, by omega, rfl, fwd_zero rl, Below.refl _ _⟩
  case round =>
    obtain ⟨j, hj, rfl, HI, HW⟩ := hrel
    by_cases hlt : j < n
    · have hjl : j < rl.length := by have := HL.out; omega
      obtain ⟨g, off, rfl, hc⟩ := HR.out (by omega)
      have hgl : g < w.heap.size := World.block_lt_of_cell? w ⟨g, off + 0 * 2, none⟩ (hc 0 (by omega)).1
      have c0 := hc j hjl
      have c1 := (HW.out.cell (p := ⟨g, off + j * 2, none⟩) hgl).trans c0.1
      have c2 := (HW.out.cell (p := ⟨g, off + j * 2 + 1, none⟩) hgl).trans c0.2
      obtain ⟨f, hf⟩ : ∃ f, rl[j].1 = f := ⟨_, rfl⟩
      obtain ⟨s, hs⟩ : ∃ s, rl[j].2 = s := ⟨_, rfl⟩
      rw [hf] at c1
      rw [hs] at c2
      have HF : Hid (rl[j].1 = f ∧ rl[j].2 = s) := ⟨hf, hs⟩
      have HC : Hid (∀ j (h : j < rl.length), w.cell? ⟨g, off + j * 2, none⟩ = some (.int .i64 rl[j].1) ∧ w.cell? ⟨g, off + j * 2 + 1, none⟩ = some (.int .i64 rl[j].2)) := hc
      clear hf hs c0 hc
      obtain ⟨d, hd⟩ := goes_bool f
      go_wp2_with fail
      refine (goesS f s d hd _).mono ?_
      rintro e w2 ⟨rfl, hb2⟩
      have HW2 : Hid (Below w.heap.size w w2) := HW.out.trans (hb2.mono HW.out.size)
      clear hb2 c1 c2
      have c2 := (HW2.out.cell (p := ⟨g, off + j * 2 + 1, none⟩) hgl).trans (HC.out j hjl).2
      rw [HF.out.2] at c2
      cases d
      · have HI' : Hid (FwdTo rl (j + 1)) := fwd_succ HI.out hjl (fun h => by rw [HF.out.1] at h; have := hd.2 h; cases this)
        clear hd HI
        go_wp2
        go_roundg (gk - 1)
        case measure => omega
        case rel => exact ⟨j + 1, by omega, by go_num, HI', HW2⟩
      · have hg : Hid (goes f) := hd.1 rfl
        clear hd
        by_cases hs : s ≤ (j : Int)
        · have HE : Hid (b = false) := not_fwd HB.out (fun h => by have := h.2 j hjl (by rw [HF.out.1]; exact hg.out); rw [HF.out.2] at this; omega)
          go_wp2
          go_ret
          exact ⟨by rw [HE.out]; rfl, HW2.out⟩
        · have HI' : Hid (FwdTo rl (j + 1)) := fwd_succ HI.out hjl (fun h => by rw [HF.out.2]; omega)
          clear HI
          go_wp2
          go_roundg (gk - 1)
          case measure => omega
          case rel => exact ⟨j + 1, by omega, by go_num, HI', HW2⟩
    · obtain ⟨c, hc⟩ := code_bool rl
      have HE : Hid (b = c) := by
        have h1 := HB.out
        cases b <;> cases c
        · rfl
        · exact h1.2 ⟨hc.1 rfl, fun i h => HI.out i h (by have := HL.out; omega)⟩
        · exact (hc.2 (h1.1 rfl).1).symm
        · rfl
      have HCB : Hid (c = true ↔ CodeR rl) := hc
      clear hc
      go_wp2_with fail
      refine (codeokS a rl n cap c HL.out hn HCB.out _ (HR.out.keep HW.out (Nat.le_refl _))).mono ?_
      rintro e w1 ⟨rfl, rfl⟩
      go_wp2
      go_ret
      exact ⟨by rw [HE.out]; rfl, HW.out⟩
end Go.Proofs.Ythnocibkgpofnaa.I

namespace Go.Proofs.Ythnocibkgpofnaa.I
open D
open Go.RowKit Go.PlainAid
set_option linter.unusedVariables false

theorem regsV_set1 : ∀ (rl : List (Int × Int)) (j : Nat) (h : j < rl.length) (s : Int), (regsV rl).set (j * 2 + 1) (.int .i64 s) = regsV (rl.set j (rl[j].1, s))
  | [], j, h, s => by simp at h
  | r :: t, 0, h, s => by simp [regsV]
  | r :: t, j + 1, h, s => by
    have := regsV_set1 t j (by simpa using h) s
    rw [show (j + 1) * 2 = j * 2 + 1 + 1 by omega]
    simpa [regsV] using this
theorem own_atI {w : World} {B n g c j : Nat} {rl : List (Int × Int)} (h : w.ownsRow B 51 2 (.slice (some ⟨g, 0, none⟩) n c) n (regsV rl)) (hj : j < rl.length) : w.cell? ⟨g, j * 2, none⟩ = some (.int .i64 rl[j].1) ∧ w.cell? ⟨g, j * 2 + 1, none⟩ = some (.int .i64 rl[j].2) := by
  have hc := h.cells rfl
  have ha := regsV_at rl j hj
  have h1 := hc _ _ ha.1
  have h2 := hc _ _ ha.2
  rw [add_at, Nat.zero_add] at h1 h2
  exact ⟨h1, h2⟩
theorem ownI_of {w : World} {B n : Nat} {v : Value} {ys : List (Int × Int)} (h : w.ownsRow B 51 2 v n (regsV ys)) (hl : ys.length = n) : OwnI w B v ys := by
  unfold OwnI; rw [hl]; exact h
theorem drawn_on {w W W' : World} {C B : Nat} {a : Option Addr} {len cap : Nat} (h : Drawn w W C B a len cap) (hb : Below W.heap.size W W') (hB : B ≤ W.heap.size) : Drawn w W' C B a len cap := by
  obtain ⟨⟨j, x, hj, hc⟩, hcode, hg⟩ := h
  refine ⟨⟨j, x, hj, row_after hc hb (row_lt hc)⟩, code_below hcode (hb.mono hB), grown_trans hg ⟨hb.os, hb.tape, hb.output, hb.size, fun k hk _ => hb.block k hk⟩⟩
theorem loop_step {ys : List (Int × Int)} {i : Nat} {t : Int} (h : RtL ys ∧ FwdTo ys i) (hi : i < ys.length) (ht : (i : Int) < t) (hb : isB t) : RtL (ys.set i (ys[i].1, t)) ∧ FwdTo (ys.set i (ys[i].1, t)) (i + 1) := by
  refine ⟨fun p hp => ?_, fun k hk hlt => ?_⟩
  · rcases List.mem_or_eq_of_mem_set hp with hp | rfl
    · exact h.1 p hp
    · exact ⟨(h.1 _ (List.getElem_mem hi)).1, hb⟩
  · rw [List.length_set] at hk
    rw [List.getElem_set]
    by_cases e : i = k
    · subst e; rw [if_pos rfl]; exact fun _ => ht
    · rw [if_neg e]; exact h.2 k hk (by omega)

set_option maxRecDepth 100000 in
set_option maxHeartbeats 4000000 in
theorem code7D (C B : Nat) (a : Option Addr) (len cap : Nat) (W : World) (hC : Cur W C a len cap) (hB : B ≤ C) (hcode : CodeOk W B a len) :
    Calls Try.prog 42 #[.pointer (some ⟨C, 0, none⟩)] W fun e w' => ∃ (g n c : Nat) (ys : List (Int × Int)), e = .returned (.slice (some ⟨g, 0, none⟩) n c) ∧ ys.length = n ∧ n ≤ 46 ∧ OwnI w' W.heap.size (.slice (some ⟨g, 0, none⟩) n c) ys ∧ Drawn W w' C B a len cap := by
  obtain ⟨i0, hi, hz0, hz1, hz2⟩ := info_parts infoR
  have hlt := cur_lt hC
  have HD0 : Hid (Drawn W (W.alloc (.cells #[] 51)) C B a len cap) := drawn_alloc ⟨hC, hcode, World.grownBy.refl _ _⟩ (by omega) _
  have HO0 : Hid (OwnI (W.alloc (.cells #[] 51)) W.heap.size (.slice (some ⟨W.heap.size, 0, none⟩) 0 0) []) := ownI_empty W
  clear hC hcode
  go_enter Try.func42, Try.ntmps42

  go_wp2_with fail
  refine (codeD C B a len cap _ HD0.out.1 hB HD0.out.2.1).mono ?_
  rintro e w1 ⟨v, xs, rfl, hxl, hrt, hvn, hox, hD⟩
  obtain ⟨gx, cx, hv⟩ := own_nn hox hvn
  subst hv
  have HRT : Hid (RtL xs) := hrt
  have HD1 : Hid (Drawn W w1 C B a len cap) := drawn_trans HD0.out hD
  have hown : w1.ownsRow W.heap.size 51 2 (.slice (some ⟨W.heap.size, 0, none⟩) 0 0) 0 (regsV []) := own_gr HO0.out hD.2.2 hlt
  have hnews : ∀ j u, (regsV xs)[j]? = some u → w1.cell? ((⟨gx, 0, none⟩ : Addr).add j) = some u := World.ownsRow.cells hox rfl
  have s1 := HD1.out.2.2.size
  clear hD HD0 HO0 hvn hrt
  go_wp2_with (at_builtin; refine wpList_append_own _ rfl _ _ 32 rfl W.heap.size 51 i0 (.agg #[.int .i64 0, .int .i64 0]) 2 16 Try.underlying32 hi hz0 hz1 hz2 rfl (by decide) _ _ _ rfl hown ⟨gx, 0, none⟩ xs.length cx (regsV xs) rfl (regsV_len xs) hnews (regsV_one xs) ?c3 ?c4 ?c5 ?_)
  case c3 => unfold maxLen; omega
  case c4 => omega
  case c5 => omega
  intro v2 w2 hown2 hgrow hnil
  have HV2 : v2 ≠ .slice none 0 0 := by first | exact hnil | exact fun e => by have := (hnil.1 e).1; cases this
  obtain ⟨n, hnn⟩ : ∃ n, xs.length = n := ⟨_, rfl⟩
  obtain ⟨g, c, hv2⟩ := own_nn (xs := xs) hown2 HV2
  rw [hnn] at hv2
  subst hv2
  have HO2 : Hid (OwnI w2 W.heap.size (.slice (some ⟨g, 0, none⟩) n c) xs) := hown2
  have HD2 : Hid (Drawn W w2 C B a len cap) := drawn_grown HD1.out hgrow (own_ge hown) hlt (by omega)
  have HLN : Hid (xs.length = n) := hnn
  have hn46 : n ≤ 46 := by omega
  have hgW : W.heap.size ≤ g := own_ge HO2.out g rfl
  clear hown hown2 hgrow hnews hox HD1 hnil HV2 hnn hxl
  go_wp2
  go_loopg [4] n (fun gk iv wr => ∃ (i : Nat) (ys : List (Int × Int)), i + gk = n ∧ iv = .int .i64 i ∧ Hid (ys.length = n) ∧ Hid (OwnI wr W.heap.size (.slice (some ⟨g, 0, none⟩) n c) ys) ∧ Hid (Drawn W wr C B a len cap))
  case atStart => exact ⟨0, xs, by omega, rfl, HLN, HO2, HD2⟩
  case round =>
    clear HLN HO2 HD2 HRT
    obtain ⟨i, ys, hig, rfl, HLN, HO, HD⟩ := hrel
    by_cases hin : i < n
    · have hil : i < ys.length := by have := HLN.out; omega
      have HO' : Hid (wr.ownsRow W.heap.size 51 2 (.slice (some ⟨g, 0, none⟩) n c) n (regsV ys)) := by have h := HO.out; unfold OwnI at h; rw [HLN.out] at h; exact h
      obtain ⟨f, hf⟩ : ∃ f, ys[i].1 = f := ⟨_, rfl⟩
      obtain ⟨s, hs⟩ : ∃ s, ys[i].2 = s := ⟨_, rfl⟩
      have HFS : Hid (ys[i].1 = f ∧ ys[i].2 = s) := ⟨hf, hs⟩
      have k1 := own_atI HO'.out hil
      rw [hf, hs] at k1
      clear hf hs
      have hi1 : (i : Int) < (n : Int) := by omega
      obtain ⟨d, hd⟩ := goes_bool f
      have HGD : Hid (d = true ↔ goes f) := hd
      clear hd
      go_wp2_with fail
      refine (goesS f s d HGD.out _).mono ?_
      rintro e w3 ⟨rfl, hb3⟩
      have HD3 : Hid (Drawn W w3 C B a len cap) := drawn_on HD.out hb3 (by have := HD.out.2.2.size; omega)
      have HO3 : Hid (w3.ownsRow W.heap.size 51 2 (.slice (some ⟨g, 0, none⟩) n c) n (regsV ys)) := own_keep HO'.out hb3 (own_lt HO'.out)
      clear hb3 HD HO HO' k1
      cases d
      · skip
        go_wp2
        go_roundg (gk - 1)
        case measure => omega
        case rel => exact ⟨i + 1, ys, by omega, by go_num, HLN, ownI_of HO3.out HLN.out, HD3⟩
      · go_wp2_with fail
        refine (onceR C B a len cap 12 (by omega) (by omega) _ HD3.out.1 hB HD3.out.2.1).mono ?_
        rintro e w4 ⟨b, rfl, hD⟩
        have HD4 : Hid (Drawn W w4 C B a len cap) := drawn_trans HD3.out hD
        have HO4 : Hid (w4.ownsRow W.heap.size 51 2 (.slice (some ⟨g, 0, none⟩) n c) n (regsV ys)) := own_gr HO3.out hD.2.2 hlt
        clear hD HD3 HO3
        cases b
        · go_wp2_with fail
          refine (below28 C B a len cap 5 (by omega) (by omega) _ HD4.out.1 hB HD4.out.2.1).mono ?_
          rintro e w5 ⟨z, rfl, z0, z1, hD⟩
          have HD5 : Hid (Drawn W w5 C B a len cap) := drawn_trans HD4.out hD
          have HO5 : Hid (w5.ownsRow W.heap.size 51 2 (.slice (some ⟨g, 0, none⟩) n c) n (regsV ys)) := own_gr HO4.out hD.2.2 hlt
          obtain ⟨t, ht⟩ : ∃ t : Int, (i : Int) + 1 + z = t := ⟨_, rfl⟩
          have kc := (own_atI HO5.out hil).2
          have kf := HO5.out.frozenAt (i * 2 + 1)
          have HO6 : Hid ((w5.setCell ⟨g, i * 2 + 1, none⟩ (.int .i64 t)).ownsRow W.heap.size 51 2 (.slice (some ⟨g, 0, none⟩) n c) n (regsV (ys.set i (ys[i].1, t)))) := by
            have := (HO5.out.stored (i * 2 + 1) (.int .i64 t)).1
            rw [regsV_set1 ys i hil] at this
            exact this
          have HD6 : Hid (Drawn W (w5.setCell ⟨g, i * 2 + 1, none⟩ (.int .i64 t)) C B a len cap) := drawn_put HD5.out _ _ hgW hlt hB
          have HL6 : Hid ((ys.set i (ys[i].1, t)).length = n) := by show _ = _; rw [List.length_set]; exact HLN.out
        
          generalize ys[i].2 = old at kc
          generalize hYS : ys.set i (ys[i].1, t) = ys' at *
          clear hD HD4 HO4 HD5 HO5 hYS
          go_wp2
          go_roundg (gk - 1)
          case measure => omega
          case rel => exact ⟨i + 1, ys', by omega, by go_num, HL6, ownI_of HO6.out HL6.out, HD6⟩
        · go_wp2
          go_roundg (gk - 1)
          case measure => omega
          case rel => exact ⟨i + 1, ys, by omega, by go_num, HLN, ownI_of HO4.out HLN.out, HD4⟩
    · go_wp2
      go_ret
      exact ⟨g, n, c, ys, rfl, HLN.out, hn46, HO.out, HD.out⟩

set_option maxRecDepth 100000 in
set_option maxHeartbeats 4000000 in
theorem drawLoopless (a : Option Addr) (len cap : Nat) (w : World) (hcode : CodeOk w w.heap.size a len) :
    Calls Try.prog 17 #[.slice a len cap] w fun e w' => ∃ (g n c : Nat) (ys : List (Int × Int)), e = .returned (.slice (some ⟨g, 0, none⟩) n c) ∧ ys.length = n ∧ n ≤ 46 ∧ FwdR ys ∧ OwnI w' w.heap.size (.slice (some ⟨g, 0, none⟩) n c) ys ∧ Below w.heap.size w w' := by
  obtain ⟨i0, hi, hz0, hz1, hz2⟩ := info_parts infoR
  have HCO : Hid (CodeOk w w.heap.size a len) := hcode
  clear hcode
  go_enter Try.func17, Try.ntmps17
  go_wp2_with fail
  refine (new23 w.heap.size a len cap _ HCO.out (Nat.le_refl _)).mono ?_
  rintro e W ⟨C, rfl, hC0, hcurW, hcodeW, hbW⟩
  have hB : w.heap.size ≤ C := hC0
  have HBW : Hid (Below w.heap.size w W) := hbW
  have hlt := cur_lt hcurW
  have HD0 : Hid (Drawn W (W.alloc (.cells #[] 51)) C w.heap.size a len cap) := drawn_alloc ⟨hcurW, hcodeW, World.grownBy.refl _ _⟩ (by omega) _
  have HO0 : Hid (OwnI (W.alloc (.cells #[] 51)) W.heap.size (.slice (some ⟨W.heap.size, 0, none⟩) 0 0) []) := ownI_empty W
  clear hC0 hcurW hcodeW hbW HCO

  go_wp2_with fail
  refine (codeD C w.heap.size a len cap _ HD0.out.1 hB HD0.out.2.1).mono ?_
  rintro e w1 ⟨v, xs, rfl, hxl, hrt, hvn, hox, hD⟩
  obtain ⟨gx, cx, hv⟩ := own_nn hox hvn
  subst hv
  have HRT : Hid (RtL xs) := hrt
  have HD1 : Hid (Drawn W w1 C w.heap.size a len cap) := drawn_trans HD0.out hD
  have hown : w1.ownsRow W.heap.size 51 2 (.slice (some ⟨W.heap.size, 0, none⟩) 0 0) 0 (regsV []) := own_gr HO0.out hD.2.2 hlt
  have hnews : ∀ j u, (regsV xs)[j]? = some u → w1.cell? ((⟨gx, 0, none⟩ : Addr).add j) = some u := World.ownsRow.cells hox rfl
  have s1 := HD1.out.2.2.size
  clear hD HD0 HO0 hvn hrt
  go_wp2_with (at_builtin; refine wpList_append_own _ rfl _ _ 32 rfl W.heap.size 51 i0 (.agg #[.int .i64 0, .int .i64 0]) 2 16 Try.underlying32 hi hz0 hz1 hz2 rfl (by decide) _ _ _ rfl hown ⟨gx, 0, none⟩ xs.length cx (regsV xs) rfl (regsV_len xs) hnews (regsV_one xs) ?c3 ?c4 ?c5 ?_)
  case c3 => unfold maxLen; omega
  case c4 => omega
  case c5 => omega
  intro v2 w2 hown2 hgrow hnil
  have HV2 : v2 ≠ .slice none 0 0 := by first | exact hnil | exact fun e => by have := (hnil.1 e).1; cases this
  obtain ⟨n, hnn⟩ : ∃ n, xs.length = n := ⟨_, rfl⟩
  obtain ⟨g, c, hv2⟩ := own_nn (xs := xs) hown2 HV2
  rw [hnn] at hv2
  subst hv2
  have HO2 : Hid (OwnI w2 W.heap.size (.slice (some ⟨g, 0, none⟩) n c) xs) := hown2
  have HD2 : Hid (Drawn W w2 C w.heap.size a len cap) := drawn_grown HD1.out hgrow (own_ge hown) hlt (by omega)
  have HLN : Hid (xs.length = n) := hnn
  have hn46 : n ≤ 46 := by omega
  have hgW : W.heap.size ≤ g := own_ge HO2.out g rfl
  clear hown hown2 hgrow hnews hox HD1 hnil HV2 hnn hxl
  go_wp2
  go_loopg [5] n (fun gk iv wr => ∃ (i : Nat) (ys : List (Int × Int)), i + gk = n ∧ iv = .int .i64 i ∧ Hid (ys.length = n) ∧ Hid (OwnI wr W.heap.size (.slice (some ⟨g, 0, none⟩) n c) ys) ∧ Hid (Drawn W wr C w.heap.size a len cap) ∧ Hid (RtL ys ∧ FwdTo ys i))
  case atStart => exact ⟨0, xs, by omega, rfl, HLN, HO2, HD2, ⟨HRT.out, fwd_zero xs⟩⟩
  case round =>
    clear HLN HO2 HD2 HRT
    obtain ⟨i, ys, hig, rfl, HLN, HO, HD, HP⟩ := hrel
    by_cases hin : i < n
    · have hil : i < ys.length := by have := HLN.out; omega
      have HO' : Hid (wr.ownsRow W.heap.size 51 2 (.slice (some ⟨g, 0, none⟩) n c) n (regsV ys)) := by have h := HO.out; unfold OwnI at h; rw [HLN.out] at h; exact h
      obtain ⟨f, hf⟩ : ∃ f, ys[i].1 = f := ⟨_, rfl⟩
      obtain ⟨s, hs⟩ : ∃ s, ys[i].2 = s := ⟨_, rfl⟩
      have HFS : Hid (ys[i].1 = f ∧ ys[i].2 = s) := ⟨hf, hs⟩
      have k1 := own_atI HO'.out hil
      rw [hf, hs] at k1
      clear hf hs
      have hi1 : (i : Int) < (n : Int) := by omega
      obtain ⟨d, hd⟩ := goes_bool f
      have HGD : Hid (d = true ↔ goes f) := hd
      clear hd
      go_wp2_with fail
      refine (goesS f s d HGD.out _).mono ?_
      rintro e w3 ⟨rfl, hb3⟩
      have HD3 : Hid (Drawn W w3 C w.heap.size a len cap) := drawn_on HD.out hb3 (by have := HD.out.2.2.size; omega)
      have HO3 : Hid (w3.ownsRow W.heap.size 51 2 (.slice (some ⟨g, 0, none⟩) n c) n (regsV ys)) := own_keep HO'.out hb3 (own_lt HO'.out)
      clear hb3 HD HO HO' k1
      cases d
      · have HP3 : Hid (RtL ys ∧ FwdTo ys (i + 1)) := ⟨HP.out.1, fwd_succ HP.out.2 hil (fun h => by rw [HFS.out.1] at h; have := HGD.out.2 h; cases this)⟩
        go_wp2
        go_roundg (gk - 1)
        case measure => omega
        case rel => exact ⟨i + 1, ys, by omega, by go_num, HLN, ownI_of HO3.out HLN.out, HD3, HP3⟩
      · go_wp2_with fail
        refine (below28 C w.heap.size a len cap 5 (by omega) (by omega) _ HD3.out.1 hB HD3.out.2.1).mono ?_
        rintro e w5 ⟨z, rfl, z0, z1, hD⟩
        have HD5 : Hid (Drawn W w5 C w.heap.size a len cap) := drawn_trans HD3.out hD
        have HO5 : Hid (w5.ownsRow W.heap.size 51 2 (.slice (some ⟨g, 0, none⟩) n c) n (regsV ys)) := own_gr HO3.out hD.2.2 hlt
        obtain ⟨t, ht⟩ : ∃ t : Int, (i : Int) + 1 + z = t := ⟨_, rfl⟩
        have kc := (own_atI HO5.out hil).2
        have kf := HO5.out.frozenAt (i * 2 + 1)
        have HO6 : Hid ((w5.setCell ⟨g, i * 2 + 1, none⟩ (.int .i64 t)).ownsRow W.heap.size 51 2 (.slice (some ⟨g, 0, none⟩) n c) n (regsV (ys.set i (ys[i].1, t)))) := by
          have := (HO5.out.stored (i * 2 + 1) (.int .i64 t)).1
          rw [regsV_set1 ys i hil] at this
          exact this
        have HD6 : Hid (Drawn W (w5.setCell ⟨g, i * 2 + 1, none⟩ (.int .i64 t)) C w.heap.size a len cap) := drawn_put HD5.out _ _ hgW hlt hB
        have HL6 : Hid ((ys.set i (ys[i].1, t)).length = n) := by show _ = _; rw [List.length_set]; exact HLN.out
      
        have HP6 : Hid (RtL (ys.set i (ys[i].1, t)) ∧ FwdTo (ys.set i (ys[i].1, t)) (i + 1)) := loop_step HP.out hil (by omega) ⟨by omega, by omega⟩
        generalize ys[i].2 = old at kc
        generalize hYS : ys.set i (ys[i].1, t) = ys' at *
        clear hD HD3 HO3 HD5 HO5 hYS
        go_wp2
        go_roundg (gk - 1)
        case measure => omega
        case rel => exact ⟨i + 1, ys', by omega, by go_num, HL6, ownI_of HO6.out HL6.out, HD6, HP6⟩
    · have HFW : Hid (FwdR ys) := ⟨⟨by have := HLN.out; omega, fun k hk => HP.out.1 _ (List.getElem_mem hk)⟩, fun k hk => HP.out.2 k hk (by have := HLN.out; omega)⟩
      have HBL : Hid (Below w.heap.size w wr) := drawn_below HBW.out hB HD.out
      have HOW : Hid (OwnI wr w.heap.size (.slice (some ⟨g, 0, none⟩) n c) ys) := HO.out.mono HBW.out.size
      go_wp2
      go_ret
      exact ⟨g, n, c, ys, rfl, HLN.out, hn46, HFW.out, HOW.out, HBL.out⟩
end Go.Proofs.Ythnocibkgpofnaa.I

namespace Go.Proofs.Ythnocibkgpofnaa.I
open D
open Go.RowKit Go.PlainAid
set_option linter.unusedVariables false

theorem rd_grown {W W' : World} {g C : Nat} {l : List Int} (h : Rd W (some ⟨g, 0, none⟩) l) (hg : W.grownBy W' (some C)) (hne : g ≠ C) : Rd W' (some ⟨g, 0, none⟩) l := fun h0 => by
  obtain ⟨b, off, ha, hc⟩ := h h0
  cases ha
  refine ⟨g, 0, rfl, fun j hj => ?_⟩
  have h1 := hc j hj
  exact (hg.cell_far ⟨g, 0 + j, none⟩ (World.block_lt_of_cell? W _ h1) (by simp; omega)).trans h1
theorem rd_set {W : World} {g k i : Nat} {l : List Int} {v : Value} (h : Rd W (some ⟨g, 0, none⟩) l) (hk : g ≠ k) : Rd (W.setCell ⟨k, i, none⟩ v) (some ⟨g, 0, none⟩) l := fun h0 => by
  obtain ⟨b, off, ha, hc⟩ := h h0
  cases ha
  exact ⟨g, 0, rfl, fun j hj => cell_set (hc j hj) hk⟩
theorem OwnI.rd' {w : World} {B g n c : Nat} {ys : List (Int × Int)} (h : OwnI w B (.slice (some ⟨g, 0, none⟩) n c) ys) : RdR w (some ⟨g, 0, none⟩) ys := by
  obtain ⟨a, cap, e, hr⟩ := h.rd
  injection e with e1 _ _
  rw [e1]; exact hr

set_option maxRecDepth 100000 in
set_option maxHeartbeats 2000000 in
theorem drawForward (a : Option Addr) (len cap : Nat) (w : World) (hcode : CodeOk w w.heap.size a len) :
    Calls Try.prog 24 #[.slice a len cap] w fun e w' => ∃ (q : Option Addr) (n c : Nat) (ys : List (Int × Int)), e = .returned (.slice q n c) ∧ ys.length = n ∧ n ≤ 61 ∧ RdR w' q ys ∧ Below w.heap.size w w' := by
  have HCO : Hid (CodeOk w w.heap.size a len) := hcode
  clear hcode
  go_enter Try.func24, Try.ntmps24
  go_wp2_with fail
  refine (new23 w.heap.size a len cap _ HCO.out (Nat.le_refl _)).mono ?_
  rintro e w1 ⟨C, rfl, hB, hcur, hcode, hb1⟩
  have HC1 : Hid (Cur w1 C a len cap ∧ CodeOk w1 w.heap.size a len) := ⟨hcur, hcode⟩
  have HB1 : Hid (Below w.heap.size w w1) := hb1
  clear hcur hcode hb1 HCO
  go_wp2_with fail
  refine (onceR C w.heap.size a len cap 6 (by omega) (by omega) _ HC1.out.1 hB HC1.out.2).mono ?_
  rintro e w2 ⟨b, rfl, hD⟩
  have HD2 : Hid (Drawn w1 w2 C w.heap.size a len cap) := hD
  clear hD HC1
  cases b
  · go_wp2_with fail
    refine (code7D C w.heap.size a len cap _ HD2.out.1 hB HD2.out.2.1).mono ?_
    rintro e w3 ⟨g, n, c, ys, rfl, hl, hn, ho, hD⟩
    have HR : Hid (ys.length = n ∧ RdR w3 (some ⟨g, 0, none⟩) ys) := ⟨hl, ho.rd'⟩
    have HBF : Hid (Below w.heap.size w w3) := drawn_below HB1.out hB (drawn_trans HD2.out hD)
    clear hl ho hD HD2
    go_wp2
    go_ret
    exact ⟨_, n, c, ys, rfl, HR.out.1, by omega, HR.out.2, HBF.out⟩
  · go_wp2_with fail
    refine (anyD C w.heap.size a len cap _ HD2.out.1 hB HD2.out.2.1).mono ?_
    rintro e w3 ⟨v, ys, rfl, hn, ho, hD⟩
    obtain ⟨q, c, rfl, hr⟩ := ho.rd
    obtain ⟨n, hnn⟩ : ∃ n, ys.length = n := ⟨_, rfl⟩
    rw [hnn]
    have HR : Hid (ys.length = n ∧ RdR w3 q ys) := ⟨hnn, hr⟩
    have HBF : Hid (Below w.heap.size w w3) := drawn_below HB1.out hB (drawn_trans HD2.out hD)
    have hn61 : n ≤ 61 := by omega
    clear ho hr hD HD2 hnn hn
    go_wp2
    go_ret
    exact ⟨q, n, c, ys, rfl, HR.out.1, hn61, HR.out.2, HBF.out⟩

set_option maxRecDepth 100000 in
set_option maxHeartbeats 2000000 in
theorem drawRun (a : Option Addr) (len cap : Nat) (w : World) (hcode : CodeOk w w.heap.size a len) :
    Calls Try.prog 20 #[.slice a len cap] w fun e w' => ∃ (g n c : Nat) (ys : List (Int × Int)) (ga m : Nat) (ce : List Int) (f s most : Int),
      e = .returned (.tuple #[.slice (some ⟨g, 0, none⟩) n c, .agg #[.slice (some ⟨ga, 0, none⟩) m 64], .agg #[.int .i64 f, .int .i64 s], .int .i64 most]) ∧ ys.length = n ∧ n ≤ 46 ∧ RdR w' (some ⟨g, 0, none⟩) ys ∧ ce.length = m ∧ m ≤ 64 ∧ Rd w' (some ⟨ga, 0, none⟩) ce ∧ (-1 ≤ most ∧ most ≤ 1000) ∧ Below w.heap.size w w' := by
  have HZA : Hid (((w.alloc (.cells #[.slice none 0 0] 34)).alloc (.cells #[.int .i64 0, .int .i64 0] 36)).heap[w.heap.size]? = some (.cells #[.slice none 0 0] 34)) := al2_1 w _ _
  have HZR : Hid (((w.alloc (.cells #[.slice none 0 0] 34)).alloc (.cells #[.int .i64 0, .int .i64 0] 36)).heap[w.heap.size + 1]? = some (.cells #[.int .i64 0, .int .i64 0] 36)) := al2_2 w _ _
  have HW0 : Hid (Below w.heap.size w ((w.alloc (.cells #[.slice none 0 0] 34)).alloc (.cells #[.int .i64 0, .int .i64 0] 36))) := al2_b w _ _
  have HCO : Hid (CodeOk ((w.alloc (.cells #[.slice none 0 0] 34)).alloc (.cells #[.int .i64 0, .int .i64 0] 36)) w.heap.size a len) := code_below hcode HW0.out
  clear hcode
  go_enter Try.func20, Try.ntmps20
  go_wp2_with fail
  refine (new23 w.heap.size a len cap _ HCO.out (by simp; omega)).mono ?_
  rintro e w1 ⟨C, rfl, hC0, hcur1, hcode1, hb1⟩
  have hC : w.heap.size + 2 ≤ C := by simp at hC0; omega
  have hBC : w.heap.size ≤ C := by omega
  have HA1 : Hid (w1.heap[w.heap.size]? = some (.cells #[.slice none 0 0] 34)) := row_on HZA.out hb1
  have HG1 : Hid (w1.heap[w.heap.size + 1]? = some (.cells #[.int .i64 0, .int .i64 0] 36)) := row_on HZR.out hb1
  have HW1 : Hid (Below w.heap.size w w1) := HW0.out.trans (hb1.mono HW0.out.size)
  have HC1 : Hid (Cur w1 C a len cap ∧ CodeOk w1 w.heap.size a len) := ⟨hcur1, hcode1⟩
  have l1 := cur_lt hcur1
  clear hC0 hcur1 hcode1 hb1 HZA HZR HW0 HCO
  go_wp2_with fail
  refine (code7D C w.heap.size a len cap _ HC1.out.1 hBC HC1.out.2).mono ?_
  rintro e w2 ⟨g, n, c, ys, rfl, hyl, hn46, hown, hD2⟩
  have HYL : Hid (ys.length = n) := hyl
  have HO2 : Hid (OwnI w2 w1.heap.size (.slice (some ⟨g, 0, none⟩) n c) ys) := hown
  have HA2 : Hid (w2.heap[w.heap.size]? = some (.cells #[.slice none 0 0] 34)) := row_drawn HA1.out hD2.2.2 (by omega)
  have HG2 : Hid (w2.heap[w.heap.size + 1]? = some (.cells #[.int .i64 0, .int .i64 0] 36)) := row_drawn HG1.out hD2.2.2 (by omega)
  have HD2 : Hid (Drawn w1 w2 C w.heap.size a len cap) := hD2
  have s2 := hD2.2.2.size
  have hg1 : w1.heap.size ≤ g := own_ge hown g rfl
  clear hown hD2 HC1 HA1 HG1 hyl
  go_wp2_with fail
  refine (arenaR C w.heap.size a len cap _ HD2.out.1 hBC HD2.out.2.1).mono ?_
  rintro e w4 ⟨ga, m, ce, rfl, hcl, hm64, hrda, hga, hD4⟩
  have HCL : Hid (ce.length = m) := hcl
  have HRA4 : Hid (Rd w4 (some ⟨ga, 0, none⟩) ce) := hrda
  have HO4 : Hid (OwnI w4 w1.heap.size (.slice (some ⟨g, 0, none⟩) n c) ys) := own_gr HO2.out hD4.2.2 (by omega)
  have HA4 : Hid (w4.heap[w.heap.size]? = some (.cells #[.slice none 0 0] 34)) := row_drawn HA2.out hD4.2.2 (by omega)
  have HG4 : Hid (w4.heap[w.heap.size + 1]? = some (.cells #[.int .i64 0, .int .i64 0] 36)) := row_drawn HG2.out hD4.2.2 (by omega)
  have HD4 : Hid (Drawn w1 w4 C w.heap.size a len cap) := drawn_trans HD2.out hD4
  have s4 := hD4.2.2.size
  clear hcl hrda hD4 HD2 HO2 HA2 HG2
  go_wp2_with fail
  refine (regionR C w.heap.size a len cap _ HD4.out.1 hBC HD4.out.2.1).mono ?_
  rintro e w5 ⟨f, s, rfl, hD5⟩
  have HRA5 : Hid (Rd w5 (some ⟨ga, 0, none⟩) ce) := rd_grown HRA4.out hD5.2.2 (by omega)
  have HO5 : Hid (OwnI w5 w1.heap.size (.slice (some ⟨g, 0, none⟩) n c) ys) := own_gr HO4.out hD5.2.2 (by omega)
  have HA5 : Hid (w5.heap[w.heap.size]? = some (.cells #[.slice none 0 0] 34)) := row_drawn HA4.out hD5.2.2 (by omega)
  have HG5 : Hid (w5.heap[w.heap.size + 1]? = some (.cells #[.int .i64 0, .int .i64 0] 36)) := row_drawn HG4.out hD5.2.2 (by omega)
  have HD5 : Hid (Drawn w1 w5 C w.heap.size a len cap) := drawn_trans HD4.out hD5
  have s5 := hD5.2.2.size
  clear hD5 HD4 HO4 HA4 HG4 HRA4
  have HDa : Hid (∀ o, Drawn w1 (w5.alloc o) C w.heap.size a len cap) := fun o => drawn_alloc HD5.out (by omega) o
  have HOa : Hid (∀ o, OwnI (w5.alloc o) w1.heap.size (.slice (some ⟨g, 0, none⟩) n c) ys) := fun o => HO5.out.alloc o
  have HRAa : Hid (∀ o, Rd (w5.alloc o) (some ⟨ga, 0, none⟩) ce) := fun o => HRA5.out.keep (al1_b w5 o) (Nat.le_refl _)
  have HAa : Hid (∀ o, (w5.alloc o).heap[w.heap.size]? = some (.cells #[.slice none 0 0] 34)) := fun o => row_on HA5.out (al1_b w5 o)
  have HGa : Hid (∀ o, (w5.alloc o).heap[w.heap.size + 1]? = some (.cells #[.int .i64 0, .int .i64 0] 36)) := fun o => row_on HG5.out (al1_b w5 o)
  have HLI : Hid _ := laid_ints0 w5 [0, 5, 20, 60, 200, 1000, -1]
  have sC := cur_lt HD5.out.1
  have sA : ∀ o, (w5.alloc o).heap.size = w5.heap.size + 1 := fun o => by simp
  have HSA : Hid (∀ o, (w5.alloc o).heap.size = w5.heap.size + 1) := sA
  clear HD5 HO5 HA5 HG5 HRA5 sA
  go_wp2_with fail
  refine (pick26' C w.heap.size a len cap [0, 5, 20, 60, 200, 1000, -1] 7 _ _ rfl (by omega) (by omega) _ (HDa.out _).1 hBC (HDa.out _).2.1 (by omega) (by simp) HLI.out).mono ?_
  rintro e w6 ⟨most, rfl, hmm, hD6⟩
  have HMO : Hid (-1 ≤ most ∧ most ≤ 1000) := by
    simp only [List.mem_cons, List.not_mem_nil, or_false] at hmm
    show -1 ≤ most ∧ most ≤ 1000
    omega
  have HRA6 : Hid (Rd w6 (some ⟨ga, 0, none⟩) ce) := rd_grown (HRAa.out _) hD6.2.2 (by omega)
  have HO6 : Hid (OwnI w6 w1.heap.size (.slice (some ⟨g, 0, none⟩) n c) ys) := own_gr (HOa.out _) hD6.2.2 (by omega)
  have HA6 : Hid (w6.heap[w.heap.size]? = some (.cells #[.slice none 0 0] 34)) := row_drawn (HAa.out _) hD6.2.2 (by omega)
  have HG6 : Hid (w6.heap[w.heap.size + 1]? = some (.cells #[.int .i64 0, .int .i64 0] 36)) := row_drawn (HGa.out _) hD6.2.2 (by omega)
  have HD6 : Hid (Drawn w1 w6 C w.heap.size a len cap) := drawn_trans (HDa.out _) hD6
  have HW6 : Hid (Below w.heap.size w w6) := drawn_below HW1.out hBC HD6.out
  clear hmm hD6 HDa HOa HRAa HAa HGa HLI HSA
  have kz1 := row1_cells HA6.out
  have kz2 := row2_cells HG6.out
  have hgs : w.heap.size + 2 ≤ ga := by omega
  have hgg : w.heap.size + 2 ≤ g := by omega
  have e01 : ¬ w.heap.size = w.heap.size + 1 := by omega
  go_wp2
  refine bodyPost_ret (v := .tuple #[.slice (some ⟨g, 0, none⟩) n c, .agg #[.slice (some ⟨ga, 0, none⟩) m 64], .agg #[.int .i64 f, .int .i64 s], .int .i64 most]) (by simp [results, Try.results20, go_sem, kz1, kz2]) rfl ?_
  have oC : OwnI _ _ _ _ := own_setOther (k := w.heap.size + 1) (i := 1) (x := .int .i64 s) (own_setOther (k := w.heap.size + 1) (i := 0) (x := .int .i64 f) (own_setOther (k := w.heap.size) (i := 0) (x := .slice (some ⟨ga, 0, none⟩) m 64) HO6.out (fun k hk => by simp [Value.ownBlock] at hk; omega)) (fun k hk => by simp [Value.ownBlock] at hk; omega)) (fun k hk => by simp [Value.ownBlock] at hk; omega)
  exact ⟨g, n, c, ys, ga, m, ce, f, s, most, rfl, HYL.out, hn46, oC.rd', HCL.out, hm64, rd_set (rd_set (rd_set HRA6.out (by omega)) (by omega)) (by omega), HMO.out, ((HW6.out.setCell (Nat.le_refl _) _).setCell (by show w.heap.size ≤ w.heap.size + 1; omega) _).setCell (by show w.heap.size ≤ w.heap.size + 1; omega) _⟩
end Go.Proofs.Ythnocibkgpofnaa.I
