/-
  Drawn texts, instructions, code: the contracts of the specification's draws.
-/
import Derived.Test.YtfhhnelffldggaaGreatDoorUqAL
import Derived.Test.YtfhhnelffldggaaGreatDoorUqAD
import Derived.Test.YtfhhnelffldggaaGreatDoorUqAE
import Derived.Test.YtfhhnelffldggaaGreatDoorUqAB
set_option maxRecDepth 100000
set_option maxHeartbeats 16000000
namespace Go.Proofs.YtfhhnelffldggaaGreatDoor.I
open Go.RowKit Go.PlainAid
set_option linter.unusedVariables false
theorem row_drawn {W W' : World} {k C : Nat} {o : Obj} (h : W.heap[k]? = some o) (hg : W.grownBy W' (some C)) (hk : k ≠ C) : W'.heap[k]? = some o :=
  (hg.block k (row_lt h) (fun e => by cases e; exact hk rfl)).trans h
theorem drawn_grown {w W W' : World} {C B : Nat} {a : Option Addr} {len cap : Nat} {v : Value} (h : Drawn w W C B a len cap) (hg : W.grownBy W' v.ownBlock) (hv : ∀ g, v.ownBlock = some g → w.heap.size ≤ g) (hC : C < w.heap.size) (hB : B ≤ w.heap.size) : Drawn w W' C B a len cap :=
  ⟨cur_new (B := B) h.1 hg (fun g e => by have := hv g e; omega), code_below h.2.1 ((Below.refl _ _).grown hg (Nat.le_trans hB h.2.2.size) (fun g e => by have := hv g e; omega)), grown_new h.2.2 hg hv⟩
theorem drawn_drew {w W : World} {C B : Nat} {a : Option Addr} {len cap : Nat} (h : Drawn w W C B a len cap) : Drawn w W.drew C B a len cap :=
  ⟨h.1, h.2.1, ⟨h.2.2.os, h.2.2.tape, h.2.2.output, h.2.2.size, h.2.2.block⟩⟩
theorem drawn_put {w W : World} {C B : Nat} {a : Option Addr} {len cap : Nat} (h : Drawn w W C B a len cap) {k : Nat} (i : Nat) (v : Value) (hk : w.heap.size ≤ k) (hC : C < w.heap.size) (hB : B ≤ C) : Drawn w (W.setCell ⟨k, i, none⟩ v) C B a len cap := by
  obtain ⟨⟨j, x, hj, hc⟩, hcode, hg⟩ := h
  refine ⟨⟨j, x, hj, ?_⟩, code_below hcode ((Below.refl _ _).setCell (by show _ ≤ k; omega) v), ?_⟩
  · unfold CurAt
    rw [Below.heap_setCell _ _ _ _ (by show C ≠ k; omega)]
    exact hc
  · have hs : (W.setCell ⟨k, i, none⟩ v).heap.size = W.heap.size := by simp
    exact ⟨hg.os, hg.tape, hg.output, by rw [hs]; exact hg.size, fun m hm hne => (Below.heap_setCell _ _ _ _ (show m ≠ k by omega)).trans (hg.block m hm hne)⟩
theorem onceR (C B : Nat) (a : Option Addr) (len cap : Nat) (n : Int) (h0 : 0 < n) (h1 : n ≤ 256) (w : World) (hC : Cur w C a len cap) (hB : B ≤ C) (hcode : CodeOk w B a len) :
    Calls Tryz.prog 123 #[.pointer (some ⟨C, 0, none⟩), .int .i64 n] w fun e w' => ∃ b : Bool, e = .returned (.bool b) ∧ Drawn w w' C B a len cap := by
  have HCu := hq hC
  have HCo := hq hcode
  clear hC hcode
  go_enter Tryz.func123, Tryz.ntmps123
  go_wp2_with fail
  refine (below28 C B a len cap n h0 (by omega) _ HCu.out hB HCo.out).mono ?_
  rintro e w1 ⟨x, rfl, x0, x1, hD⟩
  have HD := hq hD
  clear hD HCu HCo
  go_wp2
  go_ret
  exact ⟨_, rfl, HD.out⟩
theorem pick26 (C B : Nat) (a : Option Addr) (len cap : Nat) (l : List Int) (g cp : Nat) (hl : 0 < l.length) (hl2 : l.length ≤ 1000) (w : World) (hC : Cur w C a len cap) (hB : B ≤ C) (hcode : CodeOk w B a len)
    (hg : g ≠ C) (hgl : g < w.heap.size) (hcell : ∀ j (hj : j < l.length), w.cell? ⟨g, j, none⟩ = some (.int .i64 l[j])) :
    Calls Tryz.prog 124 #[.pointer (some ⟨C, 0, none⟩), .slice (some ⟨g, 0, none⟩) l.length cp] w fun e w' => ∃ x : Int, e = .returned (.int .i64 x) ∧ x ∈ l ∧ Drawn w w' C B a len cap := by
  have HD0 : Hid (Drawn w w C B a len cap) := ⟨hC, hcode, World.grownBy.refl _ _⟩
  have HC := hq hcell
  clear hC hcode hcell
  go_enter Tryz.func124, Tryz.ntmps124
  go_wp2_with fail
  refine (below28 C B a len cap _ (by omega) (by omega) _ HD0.out.1 hB HD0.out.2.1).mono ?_
  rintro e w1 ⟨x, rfl, x0, x1, hD⟩
  obtain ⟨n, rfl⟩ := Int.eq_ofNat_of_zero_le x0
  have hn : n < l.length := by omega
  have hc : w1.cell? ⟨g, n, none⟩ = some (.int .i64 l[n]) := (hD.2.2.cell_far ⟨g, n, none⟩ hgl (fun e => by cases e; exact hg rfl)).trans (HC.out n hn)
  have hm : l[n] ∈ l := List.getElem_mem hn
  have HD := hq hD
  clear hD HD0
  have HM := hq hm
  clear hm
  go_wp2
  go_ret
  exact ⟨_, rfl, HM.out, HD.out⟩
theorem pick26' (C B : Nat) (a : Option Addr) (len cap : Nat) (l : List Int) (n g cp : Nat) (hn : l.length = n) (hl : 0 < n) (hl2 : n ≤ 1000) (w : World) (hC : Cur w C a len cap) (hB : B ≤ C) (hcode : CodeOk w B a len)
    (hg : g ≠ C) (hgl : g < w.heap.size) (hcell : ∀ j (hj : j < l.length), w.cell? ⟨g, j, none⟩ = some (.int .i64 l[j])) :
    Calls Tryz.prog 124 #[.pointer (some ⟨C, 0, none⟩), .slice (some ⟨g, 0, none⟩) n cp] w fun e w' => ∃ x : Int, e = .returned (.int .i64 x) ∧ x ∈ l ∧ Drawn w w' C B a len cap := by
  subst hn; exact pick26 C B a len cap l g cp hl hl2 w hC hB hcode hg hgl hcell
theorem byte_nat {x : Int} (h0 : 0 ≤ x) (h1 : x ≤ 255) : ((UInt8.ofNat x.toNat).toNat : Int) = x := by
  rw [UInt8.toNat_ofNat']; omega
theorem textD (C B : Nat) (a : Option Addr) (len cap : Nat) (n : Nat) (hn : n ≤ 5000) (w : World) (hC : Cur w C a len cap) (hB : B ≤ C) (hcode : CodeOk w B a len) :
    Calls Tryz.prog 164 #[.pointer (some ⟨C, 0, none⟩), .int .i64 n] w fun e w' => ∃ t : ByteArray, e = .returned (.string t) ∧ t.size = n ∧ Drawn w w' C B a len cap := by
  obtain ⟨i0, hi, hz0, hz1, hz2⟩ := info_parts info5
  have hlt := cur_lt hC
  have HD0 : Hid (Drawn w (w.alloc (.cells #[] 5)) C B a len cap) := drawn_alloc ⟨hC, hcode, World.grownBy.refl _ _⟩ (by omega) _
  have how := own_empty5 w
  clear hC hcode
  go_enter Tryz.func164, Tryz.ntmps164
  go_wp2
  go_loopw [5, 6] (fun v i wr => ∃ (k : Nat) (xs : List UInt8), k ≤ n ∧ i = .int .i64 k ∧ Hid (xs.length = k) ∧ xs.length ≤ 5000 ∧ Hid (Drawn w wr C B a len cap) ∧ wr.ownsRow w.heap.size 5 1 v xs.length (bytesV xs)) (fun _ i _ => n - (intOf i).toNat)
  case atStart => exact ⟨0, [], Nat.zero_le _, rfl, (show Hid _ from rfl), by simp, HD0, how⟩
  case round =>
    clear how HD0
    obtain ⟨k, xs, hk, rfl, HX, hx, HD, hown⟩ := hrel
    have hsz := HD.out.2.2.size
    by_cases hlt2 : k < n
    · go_wp2_with fail
      refine (byte32 C B a len cap _ HD.out.1 hB HD.out.2.1).mono ?_
      rintro e w1 ⟨x, rfl, x0, x1, hC1, hg1⟩
      have hown1 := own_gr hown hg1 hlt
      have HD1 : Hid (Drawn w w1 C B a len cap) := drawn_trans HD.out ⟨hC1, code_grown HD.out.2.1 hg1 hB (by omega), hg1⟩
      have s1 := HD1.out.2.2.size
      clear hC1 hg1 HD hown
      go_wp2_with (at_builtin; refine wpList_append_own _ rfl _ _ 22 rfl w.heap.size 5 i0 (.int .u8 0) 1 1 Tryz.underlying22 hi hz0 hz1 hz2 rfl (by decide) _ _ _ rfl (hown1.alloc _) ⟨w1.heap.size, 0, none⟩ 1 1 [.int .u8 x] rfl rfl ?c1 ?c2 ?c3 ?c4 ?c5 ?_)
      case c1 => exact one_cell5 w1 _ _ rfl
      case c2 => intro u hu; simp at hu; subst hu; rfl
      case c3 => unfold maxLen; omega
      case c4 => omega
      case c5 => simp; omega
      intro v' w2 hown2 hgrow _
      have HD2 : Hid (Drawn w w2 C B a len cap) := by
        have h1 := drawn_alloc HD1.out (by omega) (.cells #[.int .u8 x] 5)
        have hv := own_ge hown1
        refine ⟨cur_new (B := B) h1.1 hgrow (fun g hg => by have := hv g hg; omega), ?_, grown_new h1.2.2 hgrow hv⟩
        exact code_below h1.2.1 ((Below.refl _ _).grown hgrow (by simp; omega) (fun g hg => by have := hv g hg; omega))
      have hown3 : w2.ownsRow w.heap.size 5 1 v' (xs ++ [UInt8.ofNat x.toNat]).length (bytesV (xs ++ [UInt8.ofNat x.toNat])) := by
        rw [show bytesV (xs ++ [UInt8.ofNat x.toNat]) = bytesV xs ++ [.int .u8 x] by simp only [bytesV, List.map_append, List.map_cons, List.map_nil, byte_nat x0 x1], List.length_append]
        exact hown2
      clear hown2 hgrow hown1 HD1
      go_wp2
      go_roundw
      case rel => exact ⟨k + 1, xs ++ [UInt8.ofNat x.toNat], by omega, by go_num, (show Hid _ from by have := HX.out; simp [Hid]; omega), by have := HX.out; simp; omega, HD2, hown3⟩
      case measure => simp [intOf]; omega
    · obtain ⟨ao, cp, hv, hcv⟩ := own_text hown
      clear hown
      subst hv
      go_wp2
      go_ret
      exact ⟨_, rfl, by show xs.toArray.size = n; rw [List.size_toArray]; have := HX.out; omega, HD.out⟩
theorem laid_ints1 (w : World) (o : Obj) (l : List Int) (j : Nat) (hj : j < l.length) : ((w.alloc o).alloc (.cells (l.map (Value.int .i64)).toArray 3)).cell? ⟨w.heap.size + 1, j, none⟩ = some (.int .i64 l[j]) := by
  have h := laid_ints (w.alloc o) l j hj
  have e : (w.alloc o).heap.size = w.heap.size + 1 := by simp
  rw [e] at h
  exact h
theorem row4c {w : World} {k : Nat} {t : TypeId} {x y z u : Value} (h : w.heap[k]? = some (.cells #[x, y, z, u] t)) :
    w.cell? ⟨k, 0, none⟩ = some x ∧ w.cell? ⟨k, 1, none⟩ = some y ∧ w.cell? ⟨k, 2, none⟩ = some z ∧ w.cell? ⟨k, 3, none⟩ = some u ∧ w.frozen? ⟨k, 0, none⟩ = false ∧ w.frozen? ⟨k, 1, none⟩ = false ∧ w.frozen? ⟨k, 2, none⟩ = false ∧ w.frozen? ⟨k, 3, none⟩ = false := by
  refine ⟨?_, ?_, ?_, ?_, ?_, ?_, ?_, ?_⟩ <;> simp [World.cell?, World.frozen?, h]
def DOr (w W : World) (C B : Nat) (a : Option Addr) (len cap : Nat) (k : Nat) (x y z u : Int) : Prop := Drawn w W C B a len cap ∧ W.heap[w.heap.size]? = some (oB 0 0 0 0) ∧ W.heap[k]? = some (oB x y z u) ∧ C < w.heap.size ∧ B ≤ C ∧ w.heap.size < k
theorem DOr.on {w W W' : World} {C B : Nat} {a : Option Addr} {len cap k : Nat} {x y z u : Int} (h : DOr w W C B a len cap k x y z u) (hD : Drawn W W' C B a len cap) : DOr w W' C B a len cap k x y z u := by
  obtain ⟨h1, h2, h3, h4, h5, h6⟩ := h
  exact ⟨drawn_trans h1 hD, row_drawn h2 hD.2.2 (by omega), row_drawn h3 hD.2.2 (by omega), h4, h5, h6⟩
theorem DOr.put1 {w W : World} {C B : Nat} {a : Option Addr} {len cap k : Nat} {x y z u : Int} (h : DOr w W C B a len cap k x y z u) (q : Int) : DOr w (W.setCell ⟨k, 1, none⟩ (.int .i64 q)) C B a len cap k x q z u := by
  obtain ⟨h1, h2, h3, h4, h5, h6⟩ := h
  exact ⟨drawn_put h1 _ _ (by omega) h4 h5, set_other h2 (by omega), set1_row h3, h4, h5, h6⟩
theorem DOr.put2 {w W : World} {C B : Nat} {a : Option Addr} {len cap k : Nat} {x y z u : Int} (h : DOr w W C B a len cap k x y z u) (q : Int) : DOr w (W.setCell ⟨k, 2, none⟩ (.int .i64 q)) C B a len cap k x y q u := by
  obtain ⟨h1, h2, h3, h4, h5, h6⟩ := h
  exact ⟨drawn_put h1 _ _ (by omega) h4 h5, set_other h2 (by omega), set1_row h3, h4, h5, h6⟩
theorem DOr.put3 {w W : World} {C B : Nat} {a : Option Addr} {len cap k : Nat} {x y z u : Int} (h : DOr w W C B a len cap k x y z u) (q : Int) : DOr w (W.setCell ⟨k, 3, none⟩ (.int .i64 q)) C B a len cap k x y z q := by
  obtain ⟨h1, h2, h3, h4, h5, h6⟩ := h
  exact ⟨drawn_put h1 _ _ (by omega) h4 h5, set_other h2 (by omega), set1_row h3, h4, h5, h6⟩
theorem DOr.done {w W : World} {C B : Nat} {a : Option Addr} {len cap k : Nat} {x y z u : Int} (h : DOr w W C B a len cap k x y z u) : Drawn w ((((W.setCell ⟨w.heap.size, 0, none⟩ (.int .i64 x)).setCell ⟨w.heap.size, 1, none⟩ (.int .i64 y)).setCell ⟨w.heap.size, 2, none⟩ (.int .i64 z)).setCell ⟨w.heap.size, 3, none⟩ (.int .i64 u)) C B a len cap :=
  drawn_put (drawn_put (drawn_put (drawn_put h.1 0 _ (Nat.le_refl _) h.2.2.2.1 h.2.2.2.2.1) 1 _ (Nat.le_refl _) h.2.2.2.1 h.2.2.2.2.1) 2 _ (Nat.le_refl _) h.2.2.2.1 h.2.2.2.2.1) 3 _ (Nat.le_refl _) h.2.2.2.1 h.2.2.2.2.1
theorem orderD (C B : Nat) (a : Option Addr) (len cap : Nat) (w : World) (hC : Cur w C a len cap) (hB : B ≤ C) (hcode : CodeOk w B a len) :
    Calls Tryz.prog 126 #[.pointer (some ⟨C, 0, none⟩)] w fun e w' => ∃ k n d v : Int, e = .returned (ordV k n d v) ∧ Drawn w w' C B a len cap := by
  have hlt := cur_lt hC
  have HD0 : Hid (Drawn w (w.alloc (oB 0 0 0 0)) C B a len cap) := drawn_alloc ⟨hC, hcode, World.grownBy.refl _ _⟩ (by omega) _
  have HZ0 : Hid ((w.alloc (oB 0 0 0 0)).heap[w.heap.size]? = some (oB 0 0 0 0)) := heap_new w _
  have HDa : Hid (∀ o, Drawn w ((w.alloc (oB 0 0 0 0)).alloc o) C B a len cap) := fun o => drawn_alloc HD0.out (by simp; omega) o
  have HZa : Hid (∀ o, ((w.alloc (oB 0 0 0 0)).alloc o).heap[w.heap.size]? = some (oB 0 0 0 0)) := fun o => (Below.heap_alloc _ _ _ (row_lt HZ0.out)).trans HZ0.out
  have HLI : Hid _ := laid_ints1 w (oB 0 0 0 0) [1, 1, 1, 2, 2, 3, 4, 5, 6]
  clear hC hcode HD0 HZ0
  go_enter Tryz.func126, Tryz.ntmps126
  go_wp2_with fail
  refine (pick26' C B a len cap [1, 1, 1, 2, 2, 3, 4, 5, 6] 9 _ _ rfl (by omega) (by omega) _ (HDa.out _).1 hB (HDa.out _).2.1 (by omega) (by simp) HLI.out).mono ?_
  rintro e w1 ⟨k, rfl, _, hD⟩
  have hs := hD.2.2.size
  have HD1 : Hid (Drawn w w1 C B a len cap) := drawn_trans (HDa.out _) hD
  have HZ1 : w1.heap[w.heap.size]? = some (oB 0 0 0 0) := row_drawn (HZa.out _) hD.2.2 (by omega)
  have hs1 := row_lt HZ1
  have HI : Hid (DOr w (w1.alloc (oB k 0 0 0)) C B a len cap w1.heap.size k 0 0 0) :=
    ⟨drawn_alloc HD1.out (by omega) _, (Below.heap_alloc _ _ _ (by omega)).trans HZ1, heap_new w1 _, hlt, hB, by omega⟩
  have k1 := row4c HI.out.2.2.1
  have HKW : Hid _ := HZ1
  have HD2 : Hid _ := HD1.out
  clear hD HD1 HZ1 HDa HZa HLI
  have ways : k = 1 ∨ k = 2 ∨ ((k == 1) = false ∧ (k == 2) = false) := by
    by_cases h1 : k = 1
    · exact .inl h1
    · by_cases h2 : k = 2
      · exact .inr (.inl h2)
      · exact .inr (.inr ⟨by simpa using h1, by simpa using h2⟩)
  rcases ways with rfl | rfl | ⟨g1, g2⟩
  · go_wp2_with fail
    refine (below28 C B a len cap 9 (by omega) (by omega) _ HI.out.1.1 hB HI.out.1.2.1).mono ?_
    rintro e w2 ⟨d, rfl, d0, d1, hD⟩
    have h2 := HI.out.on hD
    have k2 := row4c h2.2.2.1
    have HI2 : Hid (DOr _ _ _ _ _ _ _ _ _ _ _ _) := h2.put2 (1 + d)
    have k3 := row4c HI2.out.2.2.1
    clear hD HI h2 k1
    go_wp2_with fail
    refine (below28 C B a len cap (3 * (1 + d)) (by omega) (by omega) _ HI2.out.1.1 hB HI2.out.1.2.1).mono ?_
    rintro e w3 ⟨n, rfl, n0, n1, hD⟩
    have h3 := HI2.out.on hD
    have k4 := row4c h3.2.2.1
    have HI3 : Hid (DOr _ _ _ _ _ _ _ _ _ _ _ _) := h3.put1 (1 + n)
    have k5 := row4c HI3.out.2.2.1
    clear hD HI2 h3 k2 k3
    go_wp2_with fail
    refine (below28 C B a len cap 60 (by omega) (by omega) _ HI3.out.1.1 hB HI3.out.1.2.1).mono ?_
    rintro e w4 ⟨v, rfl, v0, v1, hD⟩
    have h4 := HI3.out.on hD
    have k6 := row4c h4.2.2.1
    have HI4 : Hid (DOr _ _ _ _ _ _ _ _ _ _ _ _) := h4.put3 (1 + v)
    have kk := row4c HI4.out.2.2.1
    have kz := row4c HI4.out.2.1
    have HF : Hid (Drawn _ _ _ _ _ _ _) := HI4.out.done
    clear hD HI3 h4 k4 k5 HI4
    go_wp2
    refine bodyPost_ret (v := ordV 1 (1 + n) (1 + d) (1 + v)) (by simp [results, Tryz.results126, go_sem, kz, ordV]) rfl ⟨_, _, _, _, rfl, HF.out⟩
  · go_wp2_with fail
    refine (below28 C B a len cap 40 (by omega) (by omega) _ HI.out.1.1 hB HI.out.1.2.1).mono ?_
    rintro e w4 ⟨v, rfl, v0, v1, hD⟩
    have h4 := HI.out.on hD
    have k6 := row4c h4.2.2.1
    have HI4 : Hid (DOr _ _ _ _ _ _ _ _ _ _ _ _) := h4.put3 (1 + v)
    have kk := row4c HI4.out.2.2.1
    have kz := row4c HI4.out.2.1
    have HF : Hid (Drawn _ _ _ _ _ _ _) := HI4.out.done
    clear hD HI h4 k1 HI4
    go_wp2
    refine bodyPost_ret (v := ordV 2 0 0 (1 + v)) (by simp [results, Tryz.results126, go_sem, kz, ordV]) rfl ⟨_, _, _, _, rfl, HF.out⟩
  · have ha : Drawn w ((((w1.setCell ⟨w.heap.size, 0, none⟩ (.int .i64 k)).setCell ⟨w.heap.size, 1, none⟩ (.int .i64 0)).setCell ⟨w.heap.size, 2, none⟩ (.int .i64 0)).setCell ⟨w.heap.size, 3, none⟩ (.int .i64 0)) C B a len cap := drawn_put (drawn_put (drawn_put (drawn_put HD2.out 0 _ (Nat.le_refl _) hlt hB) 1 _ (Nat.le_refl _) hlt hB) 2 _ (Nat.le_refl _) hlt hB) 3 _ (Nat.le_refl _) hlt hB
    have hr : ((((w1.setCell ⟨w.heap.size, 0, none⟩ (.int .i64 k)).setCell ⟨w.heap.size, 1, none⟩ (.int .i64 0)).setCell ⟨w.heap.size, 2, none⟩ (.int .i64 0)).setCell ⟨w.heap.size, 3, none⟩ (.int .i64 0)).heap[w.heap.size]? = some (oB k 0 0 0) := set1_row (set1_row (set1_row (set1_row HKW.out)))
    have hb := ha.2.2.size
    have HF : Hid (∀ o, Drawn w (((((w1.setCell ⟨w.heap.size, 0, none⟩ (.int .i64 k)).setCell ⟨w.heap.size, 1, none⟩ (.int .i64 0)).setCell ⟨w.heap.size, 2, none⟩ (.int .i64 0)).setCell ⟨w.heap.size, 3, none⟩ (.int .i64 0)).alloc o) C B a len cap) := fun o => drawn_alloc ha (by omega) o
    have HR : Hid (∀ o, (((((w1.setCell ⟨w.heap.size, 0, none⟩ (.int .i64 k)).setCell ⟨w.heap.size, 1, none⟩ (.int .i64 0)).setCell ⟨w.heap.size, 2, none⟩ (.int .i64 0)).setCell ⟨w.heap.size, 3, none⟩ (.int .i64 0)).alloc o).heap[w.heap.size]? = some (oB k 0 0 0)) := fun o => (Below.heap_alloc _ _ _ (row_lt hr)).trans hr
    have kz := row4c HKW.out
    clear HI HKW HD2 ha hr hb
    go_wp2
    obtain ⟨q0, q1, q2, q3, _⟩ := row4c (HR.out (oB k 0 0 0))
    refine bodyPost_ret (v := ordV k 0 0 0) (by simp only [results, Tryz.results126]; simp [go_sem, q0, q1, q2, q3, ordV]) rfl ⟨_, _, _, _, rfl, HF.out _⟩
end Go.Proofs.YtfhhnelffldggaaGreatDoor.I
